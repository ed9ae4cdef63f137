/- PickWaits's walk. (Written by bin/gen_pkwaits.py.) -/
import Derived.Test.YtkjdagjhbjpcnaaPkF
namespace Go.Proofs.Ytkjdagjhbjpcnaa.Pk
open Go.RowKit Go.Proofs.Ytkjdagjhbjpcnaa.Oct Go.Proofs.Ytkjdagjhbjpcnaa.Mv Go.Proofs.Ytkjdagjhbjpcnaa.Tl Go.Maps
set_option linter.unusedVariables false

theorem row_keep (n : Nat) (x y z : UInt16) : (row n n x y z).keep = row n 0 0 x x := by
  unfold St.keep
  rw [row_full, row_zero]
theorem row_back (n : Nat) : (row n n 0 1 1).keep = St.new n := by
  unfold St.keep
  rw [row_full]
  rfl
theorem row_down {n k : Nat} (h : k < n) : (row n k 0 1 1).down (k : Int) = (0, row n (k + 1) 0 1 1) := by
  have hc : (row n k 0 1 1).cnt k = 1 := by rw [cnt_row k 0 1 1 h, if_neg (by omega)]
  unfold St.down
  rw [if_pos ⟨by omega, by rw [n_row]; omega⟩, Int.toNat_natCast, hc, if_neg (by decide), show (1 : UInt16) - 1 = 0 from rfl, row_put n k 0 1 1 h]
theorem waits_room (n f g : Nat) : (Q.mk (row n n 0 1 1) 0 f g).room = 0 := by
  unfold Q.room
  rw [count_zero]
  intro j _ h
  have hn : (Q.mk (row n n 0 1 1) 0 f g).s.n = n := n_row _ _ _ _ _
  have h0 : (Q.mk (row n n 0 1 1) 0 f g).first = 0 := rfl
  rw [hn, h0] at h
  have hj : j < n := by omega
  show (row n n 0 1 1).free j = false
  rw [free_row n 0 1 1 hj, if_pos hj]
  rfl
theorem waits_idle (n : Nat) : (row n n 0 1 1).idle = n := by
  unfold St.idle
  rw [n_row]
  refine countP_true _ n fun j hj => ?_
  unfold St.waits
  rw [cnt_row n 0 1 1 hj, was_row n 0 1 1 hj, if_pos hj]
  rfl
theorem room_one {n g : Nat} (h1 : 1 ≤ n) (h2 : n ≤ 4096) (hg : g ≤ n) : (taken n 1 g).room + 1 = n := by
  have e := room_took (taken_ok (k := 0) h1 h2 (by omega) hg) (taken_found (g := g) (k := 0) (n := n) (by omega))
  rw [taken_took (by omega), taken_new n g h1, new_room, Nat.zero_add] at e
  omega
set_option maxRecDepth 100000 in
set_option maxHeartbeats 1000000 in
theorem waits_walk (a0 : Int) (w : World) (h0 : (Lit.int .u8 a0).wf = true) : Calls Try.prog 6 #[.int .u8 a0] w fun e w' => e = .returned (.bool true) ∧ Below w.heap.size w w' := by
  obtain ⟨x0, rfl⟩ := u8_of h0
  clear h0
  have hx0 := u8_lt x0
  obtain ⟨q, hq⟩ : ∃ q : Nat, q = x0.toNat % 59 := ⟨_, rfl⟩
  have hmi : (x0.toNat : Int) % 59 = (q : Int) := by omega
  obtain ⟨n, hn⟩ : ∃ n : Nat, n = 2 + q := ⟨_, rfl⟩
  have e1 : (2 : Int) + (q : Int) = (n : Int) := by omega
  have h2n : 2 ≤ n := by omega
  have hn2 : n ≤ 60 := by omega
  have hq60 : q < 59 := by omega
  obtain ⟨n1, hn1⟩ : ∃ n1 : Nat, n1 = n - 1 := ⟨_, rfl⟩
  have e2 : (n : Int) - 1 = (n1 : Int) := by omega
  have HN1 := Lib.hid (show n = n1 + 1 by omega)
  clear hq hn hn1
  go_enter Try.func6, Try.ntmps6
  go_wp2_with fail
  refine (new_yes n (by omega) (by omega) w).mono ?_
  rintro e w0 ⟨a, cb, mb, rfl, hf⟩
  have HA0 := Lib.hid hf.at'
  have HB0 := Lib.hid hf.below
  have HC := Lib.hid hf.hc
  have HM := Lib.hid hf.hm
  clear hf
  go_wp2_with fail
  refine (pnew_yes HA0.out 0 (Nat.zero_le _)).mono ?_
  rintro e w1 ⟨p, rfl, hf⟩
  have HP1 := Lib.hid (show PAt w1 p a cb mb n (taken n 0 0) by rw [taken_new n 0 (by omega)]; exact hf.at')
  have HB1 := Lib.hid (HB0.out.trans (hf.below.mono HB0.out.size))
  have HQ := Lib.hid (Nat.le_trans HB0.out.size hf.hp)
  clear hf HA0 HB0
  go_wp2_with fail
  go_loopw [33] (fun i wr => ∃ k : Nat, k ≤ n ∧ i = .int .i64 (k : Int) ∧ Hid (PAt wr p a cb mb n (taken n k 0)) ∧ Hid (Below w.heap.size w wr)) (fun i _ => n - (Go.RowKit.intOf i).toNat)
  case atStart => exact ⟨0, by omega, rfl, HP1, HB1⟩
  case round =>
    obtain ⟨k, hk, rfl, HP2, HB2⟩ := hrel
    by_cases hlt : k < n
    · skip
      have hki : (k : Int) < (n : Int) := by omega
      have HLT := Lib.hid hlt
      clear hlt
      go_wp2_with fail
      refine (take_found HP2.out k (taken_found HLT.out) (taken_took HLT.out)).mono ?_
      rintro e w3 ⟨rfl, az, bz⟩
      have HP3 := Lib.hid az
      have HB3 := Lib.hid (HB2.out.trans (bz.below HC.out HM.out HQ.out HB2.out.size))
      clear az bz HP2
      go_wp2_with fail
      go_roundw
      case rel => exact ⟨k + 1, by omega, by go_num, HP3, HB3⟩
      case measure => simp [Go.RowKit.intOf]; omega
    · obtain rfl : k = n := by omega
      have hlt2 : ¬ ((k : Int) < (k : Int)) := by omega
      clear HP1 HB1
      go_wp2_with fail
      refine (keep_at HP2.out.tally).mono ?_
      rintro e w3 ⟨rfl, az, bz⟩
      have HP3 := Lib.hid (HP2.out.turned az bz (rfl))
      have HB3 := Lib.hid (HB2.out.trans (bz.below HC.out HM.out HB2.out.size))
      clear az bz HP2
      have HP4 := Lib.hid (show PAt w3 p a cb mb k ⟨row k 0 0 1 1, 0, 0, 0⟩ by have h := HP3.out; rw [show (taken k k 0).s.keep = row k 0 0 1 1 from row_keep k 1 0 0, show (taken k k 0).next = 0 from if_pos rfl] at h; exact h)
      clear HP3
      dsimp only
      go_wp2_with fail
      go_loopw [41] (fun i wr => ∃ j : Nat, j ≤ k ∧ i = .int .i64 (j : Int) ∧ Hid (PAt wr p a cb mb k ⟨row k j 0 1 1, 0, 0, 0⟩) ∧ Hid (Below w.heap.size w wr)) (fun i _ => k - (Go.RowKit.intOf i).toNat)
      case atStart => exact ⟨0, by omega, rfl, HP4, HB3⟩
      case round =>
        obtain ⟨j, hj, rfl, HP5, HB5⟩ := hrel
        by_cases hlt : j < k
        · skip
          have hki : (j : Int) < (k : Int) := by omega
          have HLT := Lib.hid hlt
          clear hlt
          go_wp2_with fail
          refine (down_eq HP5.out.tally (j : Int) 0 (row_down HLT.out)).mono ?_
          rintro e w6 ⟨rfl, az, bz⟩
          have HP6 := Lib.hid (HP5.out.turned az bz (by show (row k (j + 1) 0 1 1).n = (row k j 0 1 1).n; rw [n_row, n_row]))
          have HB6 := Lib.hid (HB5.out.trans (bz.below HC.out HM.out HB5.out.size))
          clear az bz HP5
          go_wp2_with fail
          go_roundw
          case rel => exact ⟨j + 1, by omega, by go_num, HP6, HB6⟩
          case measure => simp [Go.RowKit.intOf]; omega
        · obtain rfl : j = k := by omega
          have hlt3 : ¬ ((j : Int) < (j : Int)) := by omega
          clear HP4 HB3
          go_wp2_with fail
          refine (take_none HP5.out (waits_room _ _ _)).mono ?_
          rintro e w6 ⟨rfl, az, bz⟩
          have HP6 := Lib.hid az
          have HB6 := Lib.hid (HB5.out.trans (bz.below HC.out HM.out HQ.out HB5.out.size))
          clear az bz HP5
          go_wp2_with fail
          refine (room_eq HP6.out 0 (by rw [waits_room]; rfl)).mono ?_
          rintro e w' ⟨rfl, rfl⟩
          go_wp2_with fail
          refine (idle_eq HP6.out.tally (j : Int) (by rw [show (Q.mk (row j j 0 1 1) 0 0 0).s.idle = j from waits_idle j])).mono ?_
          rintro e w7 ⟨rfl, bz⟩
          have HP7 := Lib.hid (HP6.out.kept bz)
          have HB7 := Lib.hid (HB6.out.trans (bz.mono HB6.out.size))
          clear bz HP6
          go_wp2_with fail
          refine (keep_at HP7.out.tally).mono ?_
          rintro e w8 ⟨rfl, az, bz⟩
          have HP8 := Lib.hid (HP7.out.turned az bz (rfl))
          have HB8 := Lib.hid (HB7.out.trans (bz.below HC.out HM.out HB7.out.size))
          clear az bz HP7
          have HP9 := Lib.hid (show PAt w8 p a cb mb j (taken j 0 0) by have h := HP8.out; rw [show (Q.mk (row j j 0 1 1) 0 0 0).s.keep = St.new j from row_back j] at h; rw [taken_new j 0 (by omega)]; exact h)
          have HB9 := HB8
          clear HP8 HB8
          dsimp only
          go_wp2_with fail
          refine (take_found HP9.out 0 (taken_found (by omega)) (taken_took (by omega))).mono ?_
          rintro e w10 ⟨rfl, az, bz⟩
          have HP10 := Lib.hid az
          have HB10 := Lib.hid (HB9.out.trans (bz.below HC.out HM.out HQ.out HB9.out.size))
          clear az bz HP9
          go_wp2_with fail
          refine (room_eq HP10.out (n1 : Int) (by show ((taken j 1 0).room : Int) = (n1 : Int); have := room_one (n := j) (g := 0) (by omega) (by omega) (by omega); have := HN1.out; omega)).mono ?_
          rintro e w' ⟨rfl, rfl⟩
          go_wp2_with fail
          refine (awake_any _).mono ?_
          rintro e w12 ⟨rfl, bz⟩
          have HB12 := Lib.hid (HB10.out.trans (bz.mono HB10.out.size))
          clear bz
          go_wp2_with fail
          go_ret
          exact ⟨rfl, HB12.out⟩
end Go.Proofs.Ytkjdagjhbjpcnaa.Pk
