/- PickAsked's walk. (Written by bin/gen_pkasked.py.) -/
import Derived.Test.YtkjdagjhbjpcnaaPkF
namespace Go.Proofs.Ytkjdagjhbjpcnaa.Pk
open Go.RowKit Go.Proofs.Ytkjdagjhbjpcnaa.Oct Go.Proofs.Ytkjdagjhbjpcnaa.Mv Go.Proofs.Ytkjdagjhbjpcnaa.Tl Go.Maps
set_option linter.unusedVariables false

theorem room_fresh {n : Nat} (h : 1 ≤ n) (g : Nat) : (taken n 0 g).room = n := by rw [taken_new n g h, new_room]; rfl
theorem ask_fresh {n g x : Nat} (h : 1 ≤ n) (hx : g + x ≤ n) : (taken n 0 g).ask (x : Int) = (0, taken n 0 (g + x)) := by
  have hg : (taken n 0 g).asked = g := rfl
  unfold Q.ask
  rw [if_neg (by omega), if_neg (by rw [room_fresh h, hg]; omega), Int.toNat_natCast, hg]
  rfl
theorem ask_much {n g x : Nat} (h : 1 ≤ n) (hx : n < g + x) : (taken n 0 g).ask (x : Int) = (90, taken n 0 g) := by
  have hg : (taken n 0 g).asked = g := rfl
  unfold Q.ask
  rw [if_neg (by omega), if_pos (by rw [room_fresh h, hg]; omega)]
theorem ask_full (n g : Nat) : (taken n n g).ask 1 = (90, taken n n g) := by
  have hg : (taken n n g).asked = g := rfl
  unfold Q.ask
  rw [if_neg (by omega), if_pos (by rw [taken_room, hg]; omega)]
theorem ask_neg (q : Q) : q.ask (-1) = (2, q) := by unfold Q.ask; rw [if_pos (by omega)]
theorem done_neg (q : Q) : q.done (-1) = (2, q) := by unfold Q.done; rw [if_pos (by omega)]
theorem done_more (n k g : Nat) : (taken n k g).done ((g + 1 : Nat) : Int) = (91, taken n k g) := by
  have hg : (taken n k g).asked = g := rfl
  unfold Q.done
  rw [if_neg (by omega), if_pos (by rw [hg]; omega)]
theorem done_all (n k g : Nat) : (taken n k g).done (g : Int) = (0, taken n k 0) := by
  have hg : (taken n k g).asked = g := rfl
  unfold Q.done
  rw [if_neg (by omega), if_neg (by rw [hg]; omega), Int.toNat_natCast, hg, Nat.sub_self]
  rfl
theorem ask_none (n : Nat) : (taken n n 0).ask 0 = (0, taken n n 0) := by
  have hg : (taken n n 0).asked = 0 := rfl
  unfold Q.ask
  rw [if_neg (by omega), if_neg (by rw [taken_room, hg]; omega), hg]
  rfl
set_option maxRecDepth 100000 in
set_option maxHeartbeats 1000000 in
theorem asked_walk (a0 a1 a2 : Int) (w : World) (h0 : (Lit.int .u8 a0).wf = true) (h1 : (Lit.int .u8 a1).wf = true) (h2 : (Lit.int .u8 a2).wf = true) : Calls Try.prog 7 #[.int .u8 a0, .int .u8 a1, .int .u8 a2] w fun e w' => e = .returned (.bool true) ∧ Below w.heap.size w w' := by
  obtain ⟨x0, rfl⟩ := u8_of h0
  obtain ⟨x1, rfl⟩ := u8_of h1
  obtain ⟨x2, rfl⟩ := u8_of h2
  clear h0 h1 h2
  have hx0 := u8_lt x0
  have hx1 := u8_lt x1
  have hx2 := u8_lt x2
  obtain ⟨q, hq⟩ : ∃ q : Nat, q = x0.toNat % 59 := ⟨_, rfl⟩
  have hmi : (x0.toNat : Int) % 59 = (q : Int) := by omega
  obtain ⟨n, hn⟩ : ∃ n : Nat, n = 2 + q := ⟨_, rfl⟩
  have e1 : (2 : Int) + (q : Int) = (n : Int) := by omega
  have h2n : 2 ≤ n := by omega
  have hn2 : n ≤ 60 := by omega
  have hq60 : q < 59 := by omega
  obtain ⟨n1, hn1⟩ : ∃ n1 : Nat, n1 = n + 1 := ⟨_, rfl⟩
  have e2 : (n : Int) + 1 = (n1 : Int) := by omega
  have hn10 : ¬ ((n1 : Int) = 0) := by omega
  have hn1b : n1 ≤ 61 := by omega
  obtain ⟨x, hx⟩ : ∃ x : Nat, x = x1.toNat % n1 := ⟨_, rfl⟩
  have hxi : (x1.toNat : Int) % (n1 : Int) = (x : Int) := by rw [hx]; omega
  have hxt : Int.tmod (x1.toNat : Int) (n1 : Int) = (x : Int) := by rw [Int.tmod_eq_emod_of_nonneg (by omega), hxi]
  have hxn : x ≤ n := by have := Nat.mod_lt x1.toNat (show 0 < n1 by omega); omega
  obtain ⟨y, hy⟩ : ∃ y : Nat, y = x2.toNat := ⟨_, rfl⟩
  have hyb : y < 256 := by omega
  rw [← hy]
  obtain ⟨z, hz⟩ : ∃ z : Nat, z = n - x := ⟨_, rfl⟩
  have hzi : (n : Int) - (x : Int) = (z : Int) := by omega
  have HZ := Lib.hid (show n = x + z by omega)
  clear hq hn hn1 hx hx2 hy hz
  go_enter Try.func7, Try.ntmps7
  go_wp2_with fail
  refine (new_yes n (by omega) (by omega) w).mono ?_
  rintro e w0 ⟨a, cb, mb, rfl, hf⟩
  have HA0 := Lib.hid hf.at'
  have HB0 := Lib.hid hf.below
  have HC := Lib.hid hf.hc
  have HM := Lib.hid hf.hm
  clear hf
  go_wp2_with fail
  refine (pnew_yes HA0.out 0 (Nat.zero_le _)).mono ?_
  rintro e w1 ⟨p, rfl, hf⟩
  have HP1 := Lib.hid (show PAt w1 p a cb mb n (taken n 0 0) by rw [taken_new n 0 (by omega)]; exact hf.at')
  have HB1 := Lib.hid (HB0.out.trans (hf.below.mono HB0.out.size))
  have HQ := Lib.hid (Nat.le_trans HB0.out.size hf.hp)
  clear hf HA0 HB0
  have HAX := Lib.hid (show (taken n 0 0).ask (x : Int) = (0, taken n 0 x) by have := @ask_fresh n 0 x (by omega) (by omega); rwa [Nat.zero_add] at this)
  go_wp2_with fail
  refine (ask_eq HP1.out (x : Int) 0 HAX.out).mono ?_
  rintro e w2 ⟨rfl, az, bz⟩
  have HP2 := Lib.hid az
  have HB2 := Lib.hid (HB1.out.trans (bz.below HC.out HM.out HQ.out HB1.out.size))
  clear az bz HP1
  go_wp2_with fail
  refine (asked_at HP2.out).mono ?_
  rintro e w' ⟨rfl, rfl⟩
  have HAS := Lib.hid (show (taken n 0 x).asked = x from rfl)
  rw [show (taken n 0 x).asked = x from rfl]
  by_cases hyz : y ≤ z
  · skip
    have hyi : (y : Int) ≤ (z : Int) := by omega
    obtain ⟨g, hg⟩ : ∃ g : Nat, g = x + y := ⟨_, rfl⟩
    have hgn : g ≤ n := by have := HZ.out; omega
    have HAY := Lib.hid (show (taken n 0 x).ask (y : Int) = (0, taken n 0 g) by rw [hg]; exact ask_fresh (by omega) (by omega))
    clear hyz hg
    go_wp2_with fail
    refine (ask_eq HP2.out (y : Int) 0 HAY.out).mono ?_
    rintro e w3 ⟨rfl, az, bz⟩
    have HP3 := Lib.hid az
    have HB3 := Lib.hid (HB2.out.trans (bz.below HC.out HM.out HQ.out HB2.out.size))
    clear az bz HP2
    go_wp2_with fail
    refine (asked_at HP3.out).mono ?_
    rintro e w' ⟨rfl, rfl⟩
    rw [show (taken n 0 (g)).asked = g from rfl]
    go_wp2_with fail
    go_loopw [69] (fun i wr => ∃ k : Nat, k ≤ n ∧ i = .int .i64 (k : Int) ∧ Hid (PAt wr p a cb mb n (taken n k (g))) ∧ Hid (Below w.heap.size w wr)) (fun i _ => n - (Go.RowKit.intOf i).toNat)
    case atStart => exact ⟨0, by omega, rfl, HP3, HB3⟩
    case round =>
      obtain ⟨k, hk, rfl, HP5, HB5⟩ := hrel
      by_cases hlt : k < n
      · skip
        have hki : (k : Int) < (n : Int) := by omega
        have HLT := Lib.hid hlt
        clear hlt
        go_wp2_with fail
        refine (take_found HP5.out k (taken_found HLT.out) (taken_took HLT.out)).mono ?_
        rintro e w6 ⟨rfl, az, bz⟩
        have HP6 := Lib.hid az
        have HB6 := Lib.hid (HB5.out.trans (bz.below HC.out HM.out HQ.out HB5.out.size))
        clear az bz HP5
        go_wp2_with fail
        go_roundw
        case rel => exact ⟨k + 1, by omega, by go_num, HP6, HB6⟩
        case measure => simp [Go.RowKit.intOf]; omega
      · obtain rfl : k = n := by omega
        have hlt2 : ¬ ((k : Int) < (k : Int)) := by omega
        go_wp2_with fail
        refine (asked_at HP5.out).mono ?_
        rintro e w' ⟨rfl, rfl⟩
        rw [show (taken k k (g)).asked = g from rfl]
        go_wp2_with fail
        refine (ask_eq HP5.out 1 90 (ask_full _ _)).mono ?_
        rintro e w6 ⟨rfl, az, bz⟩
        have HP6 := Lib.hid az
        have HB6 := Lib.hid (HB5.out.trans (bz.below HC.out HM.out HQ.out HB5.out.size))
        clear az bz HP5
        obtain ⟨g1, hg1⟩ : ∃ g1 : Nat, g1 = g + 1 := ⟨_, rfl⟩
        have eg : (g : Int) + 1 = (g1 : Int) := by omega
        have hg1b : g1 ≤ 61 := by omega
        have HDM := Lib.hid (show (taken k k g).done (g1 : Int) = (91, taken k k g) by rw [hg1]; exact done_more k k g)
        clear hg1
        go_wp2_with fail
        refine (done_eq HP6.out (g1 : Int) 91 HDM.out).mono ?_
        rintro e w7 ⟨rfl, az, bz⟩
        have HP7 := Lib.hid az
        have HB7 := Lib.hid (HB6.out.trans (bz.below HC.out HM.out HQ.out HB6.out.size))
        clear az bz HP6
        go_wp2_with fail
        refine (done_eq HP7.out (-1) 2 (done_neg _)).mono ?_
        rintro e w8 ⟨rfl, az, bz⟩
        have HP8 := Lib.hid az
        have HB8 := Lib.hid (HB7.out.trans (bz.below HC.out HM.out HQ.out HB7.out.size))
        clear az bz HP7
        go_wp2_with fail
        refine (ask_eq HP8.out (-1) 2 (ask_neg _)).mono ?_
        rintro e w9 ⟨rfl, az, bz⟩
        have HP9 := Lib.hid az
        have HB9 := Lib.hid (HB8.out.trans (bz.below HC.out HM.out HQ.out HB8.out.size))
        clear az bz HP8
        go_wp2_with fail
        refine (done_eq HP9.out (g : Int) 0 (done_all _ _ _)).mono ?_
        rintro e w10 ⟨rfl, az, bz⟩
        have HP10 := Lib.hid az
        have HB10 := Lib.hid (HB9.out.trans (bz.below HC.out HM.out HQ.out HB9.out.size))
        clear az bz HP9
        go_wp2_with fail
        refine (asked_at HP10.out).mono ?_
        rintro e w' ⟨rfl, rfl⟩
        rw [show (taken k k 0).asked = 0 from rfl]
        go_wp2_with fail
        refine (ask_eq HP10.out 0 0 (ask_none _)).mono ?_
        rintro e w11 ⟨rfl, az, bz⟩
        have HP11 := Lib.hid az
        have HB11 := Lib.hid (HB10.out.trans (bz.below HC.out HM.out HQ.out HB10.out.size))
        clear az bz HP10
        go_wp2_with fail
        refine (awake_any _).mono ?_
        rintro e w20 ⟨rfl, bz⟩
        have HB20 := Lib.hid (HB11.out.trans (bz.mono HB11.out.size))
        clear bz
        go_wp2_with fail
        go_ret
        exact ⟨rfl, HB20.out⟩
  · skip
    have hyi : ¬ ((y : Int) ≤ (z : Int)) := by omega
    have HAY := Lib.hid (show (taken n 0 x).ask (y : Int) = (90, taken n 0 x) from ask_much (by omega) (by have := HZ.out; omega))
    clear hyz
    go_wp2_with fail
    refine (ask_eq HP2.out (y : Int) 90 HAY.out).mono ?_
    rintro e w3 ⟨rfl, az, bz⟩
    have HP3 := Lib.hid az
    have HB3 := Lib.hid (HB2.out.trans (bz.below HC.out HM.out HQ.out HB2.out.size))
    clear az bz HP2
    go_wp2_with fail
    refine (asked_at HP3.out).mono ?_
    rintro e w' ⟨rfl, rfl⟩
    rw [show (taken n 0 (x)).asked = x from rfl]
    go_wp2_with fail
    go_loopw [69] (fun i wr => ∃ k : Nat, k ≤ n ∧ i = .int .i64 (k : Int) ∧ Hid (PAt wr p a cb mb n (taken n k (x))) ∧ Hid (Below w.heap.size w wr)) (fun i _ => n - (Go.RowKit.intOf i).toNat)
    case atStart => exact ⟨0, by omega, rfl, HP3, HB3⟩
    case round =>
      obtain ⟨k, hk, rfl, HP5, HB5⟩ := hrel
      by_cases hlt : k < n
      · skip
        have hki : (k : Int) < (n : Int) := by omega
        have HLT := Lib.hid hlt
        clear hlt
        go_wp2_with fail
        refine (take_found HP5.out k (taken_found HLT.out) (taken_took HLT.out)).mono ?_
        rintro e w6 ⟨rfl, az, bz⟩
        have HP6 := Lib.hid az
        have HB6 := Lib.hid (HB5.out.trans (bz.below HC.out HM.out HQ.out HB5.out.size))
        clear az bz HP5
        go_wp2_with fail
        go_roundw
        case rel => exact ⟨k + 1, by omega, by go_num, HP6, HB6⟩
        case measure => simp [Go.RowKit.intOf]; omega
      · obtain rfl : k = n := by omega
        have hlt2 : ¬ ((k : Int) < (k : Int)) := by omega
        go_wp2_with fail
        refine (asked_at HP5.out).mono ?_
        rintro e w' ⟨rfl, rfl⟩
        rw [show (taken k k (x)).asked = x from rfl]
        go_wp2_with fail
        refine (ask_eq HP5.out 1 90 (ask_full _ _)).mono ?_
        rintro e w6 ⟨rfl, az, bz⟩
        have HP6 := Lib.hid az
        have HB6 := Lib.hid (HB5.out.trans (bz.below HC.out HM.out HQ.out HB5.out.size))
        clear az bz HP5
        obtain ⟨g1, hg1⟩ : ∃ g1 : Nat, g1 = x + 1 := ⟨_, rfl⟩
        have eg : (x : Int) + 1 = (g1 : Int) := by omega
        have hg1b : g1 ≤ 61 := by omega
        have HDM := Lib.hid (show (taken k k x).done (g1 : Int) = (91, taken k k x) by rw [hg1]; exact done_more k k x)
        clear hg1
        go_wp2_with fail
        refine (done_eq HP6.out (g1 : Int) 91 HDM.out).mono ?_
        rintro e w7 ⟨rfl, az, bz⟩
        have HP7 := Lib.hid az
        have HB7 := Lib.hid (HB6.out.trans (bz.below HC.out HM.out HQ.out HB6.out.size))
        clear az bz HP6
        go_wp2_with fail
        refine (done_eq HP7.out (-1) 2 (done_neg _)).mono ?_
        rintro e w8 ⟨rfl, az, bz⟩
        have HP8 := Lib.hid az
        have HB8 := Lib.hid (HB7.out.trans (bz.below HC.out HM.out HQ.out HB7.out.size))
        clear az bz HP7
        go_wp2_with fail
        refine (ask_eq HP8.out (-1) 2 (ask_neg _)).mono ?_
        rintro e w9 ⟨rfl, az, bz⟩
        have HP9 := Lib.hid az
        have HB9 := Lib.hid (HB8.out.trans (bz.below HC.out HM.out HQ.out HB8.out.size))
        clear az bz HP8
        go_wp2_with fail
        refine (done_eq HP9.out (x : Int) 0 (done_all _ _ _)).mono ?_
        rintro e w10 ⟨rfl, az, bz⟩
        have HP10 := Lib.hid az
        have HB10 := Lib.hid (HB9.out.trans (bz.below HC.out HM.out HQ.out HB9.out.size))
        clear az bz HP9
        go_wp2_with fail
        refine (asked_at HP10.out).mono ?_
        rintro e w' ⟨rfl, rfl⟩
        rw [show (taken k k 0).asked = 0 from rfl]
        go_wp2_with fail
        refine (ask_eq HP10.out 0 0 (ask_none _)).mono ?_
        rintro e w11 ⟨rfl, az, bz⟩
        have HP11 := Lib.hid az
        have HB11 := Lib.hid (HB10.out.trans (bz.below HC.out HM.out HQ.out HB10.out.size))
        clear az bz HP10
        go_wp2_with fail
        refine (awake_any _).mono ?_
        rintro e w20 ⟨rfl, bz⟩
        have HB20 := Lib.hid (HB11.out.trans (bz.mono HB11.out.size))
        clear bz
        go_wp2_with fail
        go_ret
        exact ⟨rfl, HB20.out⟩
end Go.Proofs.Ytkjdagjhbjpcnaa.Pk
