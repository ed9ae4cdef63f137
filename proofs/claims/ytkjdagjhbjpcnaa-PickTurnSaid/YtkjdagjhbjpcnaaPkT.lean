/- PickTurn's walk. (Written by bin/gen_pkturn.py.) -/
import Derived.Test.YtkjdagjhbjpcnaaPkF
namespace Go.Proofs.Ytkjdagjhbjpcnaa.Pk
open Go.RowKit Go.Proofs.Ytkjdagjhbjpcnaa.Oct Go.Proofs.Ytkjdagjhbjpcnaa.Mv Go.Proofs.Ytkjdagjhbjpcnaa.Tl Go.Maps
set_option linter.unusedVariables false

theorem turn_took {n f b : Nat} (hb : b < n) (hf : f ≤ b) : (Q.mk (St.new n) f b 0).took b = ⟨(St.new n).put b ((St.new n).cnt b + 1), f, if b + 1 = n then f else b + 1, 0⟩ := by
  unfold Q.took
  rw [show (Q.mk (St.new n) f b 0).s.n = n from n_new n]
theorem turn_next {n f k : Nat} (h : f < n) : (if f + k % (n - f) + 1 = n then f else f + k % (n - f) + 1) = f + (k + 1) % (n - f) := by
  have hm : 0 < n - f := by omega
  have h1 := Nat.mod_lt k hm
  have h2 : (k + 1) % (n - f) = (k % (n - f) + 1) % (n - f) := by rw [Nat.mod_add_mod]
  rw [h2]
  generalize k % (n - f) = r at *
  split
  · have e : r + 1 = n - f := by omega
    rw [e, Nat.mod_self]
    rfl
  · have e : (r + 1) % (n - f) = r + 1 := Nat.mod_eq_of_lt (by omega)
    rw [e]
    rfl
set_option maxRecDepth 100000 in
set_option maxHeartbeats 1000000 in
theorem turn_walk (a0 a1 : Int) (w : World) (h0 : (Lit.int .u8 a0).wf = true) (h1 : (Lit.int .u8 a1).wf = true) : Calls Try.prog 5 #[.int .u8 a0, .int .u8 a1] w fun e w' => e = .returned (.bool true) ∧ Below w.heap.size w w' := by
  obtain ⟨x0, rfl⟩ := u8_of h0
  obtain ⟨x1, rfl⟩ := u8_of h1
  clear h0 h1
  have hx0 := u8_lt x0
  have hx1 := u8_lt x1
  obtain ⟨q, hq⟩ : ∃ q : Nat, q = x0.toNat % 59 := ⟨_, rfl⟩
  have hmi : (x0.toNat : Int) % 59 = (q : Int) := by omega
  obtain ⟨n, hn⟩ : ∃ n : Nat, n = 2 + q := ⟨_, rfl⟩
  have e1 : (2 : Int) + (q : Int) = (n : Int) := by omega
  obtain ⟨f, hf⟩ : ∃ f : Nat, f = x1.toNat % n := ⟨_, rfl⟩
  have hfi : (x1.toNat : Int) % (n : Int) = (f : Int) := by rw [hf]; omega
  have hft : Int.tmod (x1.toNat : Int) (n : Int) = (f : Int) := by rw [Int.tmod_eq_emod_of_nonneg (by omega), hfi]
  have h2n : 2 ≤ n := by omega
  have hn2 : n ≤ 60 := by omega
  have hq60 : q < 59 := by omega
  have hfn : f < n := by rw [hf]; exact Nat.mod_lt _ (by omega)
  have hn0 : ¬ ((n : Int) = 0) := by omega
  obtain ⟨m, hm⟩ : ∃ m : Nat, m = n - f := ⟨_, rfl⟩
  have hmm : (n : Int) - (f : Int) = (m : Int) := by omega
  obtain ⟨M, hM⟩ : ∃ M : Nat, M = 2 * m := ⟨_, rfl⟩
  have hMM : (2 : Int) * (m : Int) = (M : Int) := by omega
  have hM2 : M ≤ 120 := by omega
  have hm0 : ¬ ((m : Int) = 0) := by omega
  have hmp : 0 < m := by omega
  have HM0 := Lib.hid hm
  clear hq hn hf hM hm
  go_enter Try.func5, Try.ntmps5
  go_wp2_with fail
  refine (new_yes n (by omega) (by omega) w).mono ?_
  rintro e w0 ⟨a, cb, mb, rfl, hf⟩
  have HA0 := Lib.hid hf.at'
  have HB0 := Lib.hid hf.below
  have HC := Lib.hid hf.hc
  have HM := Lib.hid hf.hm
  clear hf
  go_wp2_with fail
  refine (pnew_yes HA0.out f (by rw [n_new]; omega)).mono ?_
  rintro e w1 ⟨p, rfl, hf⟩
  have HP1 := Lib.hid hf.at'
  have HB1 := Lib.hid (HB0.out.trans (hf.below.mono HB0.out.size))
  have HQ := Lib.hid (Nat.le_trans HB0.out.size hf.hp)
  clear hf HA0 HB0
  go_wp2_with fail
  go_loopw [43] (fun i wr => ∃ k : Nat, k ≤ M ∧ i = .int .i64 (k : Int) ∧ Hid (PAt wr p a cb mb n ⟨St.new n, f, f + k % m, 0⟩) ∧ Hid (Below w.heap.size w wr)) (fun i _ => M - (Go.RowKit.intOf i).toNat)
  case atStart => exact ⟨0, by omega, rfl, by rw [Nat.zero_mod]; exact HP1, HB1⟩
  case round =>
    obtain ⟨k, hk, rfl, HP2, HB2⟩ := hrel
    by_cases hlt : k < M
    · skip
      have hki : (k : Int) < (M : Int) := by omega
      obtain ⟨r, hr⟩ : ∃ r : Nat, r = k % m := ⟨_, rfl⟩
      have hrm : r < m := by rw [hr]; exact Nat.mod_lt _ hmp
      have hri : (k : Int) % (m : Int) = (r : Int) := by rw [hr]; omega
      have hrt : Int.tmod (k : Int) (m : Int) = (r : Int) := by rw [Int.tmod_eq_emod_of_nonneg (by omega), hri]
      obtain ⟨b, hb⟩ : ∃ b : Nat, b = f + r := ⟨_, rfl⟩
      have hbi : (f : Int) + (r : Int) = (b : Int) := by omega
      have hbn : b < n := by have := HM0.out; omega
      have hfb : f ≤ b := by omega
      have HTK := Lib.hid (show (Q.mk (St.new n) f b 0).took b = ⟨(St.new n).put b ((St.new n).cnt b + 1), f, f + (k + 1) % m, 0⟩ by rw [turn_took hbn hfb, hb, hr, HM0.out, turn_next hfn])
      have HFO := Lib.hid (@found_next (Q.mk (St.new n) f b 0) (by show b < (St.new n).n; rw [n_new]; exact hbn) free_new)
      have HDN := Lib.hid (@down_up (St.new n) b (by rw [n_new]; exact hbn) (by rw [cnt_new]; decide))
      rw [← hr, ← hb] at HP2
      clear hr hb hlt
      go_wp2_with fail
      refine (take_found HP2.out b HFO.out HTK.out).mono ?_
      rintro e w3 ⟨rfl, az, bz⟩
      have HP3 := Lib.hid az
      have HB3 := Lib.hid (HB2.out.trans (bz.below HC.out HM.out HQ.out HB2.out.size))
      clear az bz HP2
      go_wp2_with fail
      refine (down_eq HP3.out.tally (b : Int) 0 HDN.out).mono ?_
      rintro e w4 ⟨rfl, az, bz⟩
      have HP4 := Lib.hid (HP3.out.turned az bz (by rw [n_put]))
      have HB4 := Lib.hid (HB3.out.trans (bz.below HC.out HM.out HB3.out.size))
      clear az bz HP3
      go_wp2_with fail
      go_roundw
      case rel => exact ⟨k + 1, by omega, by go_num, HP4, HB4⟩
      case measure => simp [Go.RowKit.intOf]; omega
    · obtain rfl : k = M := by omega
      have hlt2 : ¬ ((k : Int) < (k : Int)) := by omega
      go_wp2_with fail
      refine (room_eq HP2.out (m : Int) (by rw [new_room, HM0.out])).mono ?_
      rintro e w' ⟨rfl, rfl⟩
      go_wp2_with fail
      refine (awake_any _).mono ?_
      rintro e w3 ⟨rfl, bz⟩
      have HB3 := Lib.hid (HB2.out.trans (bz.mono HB2.out.size))
      clear bz
      go_wp2_with fail
      go_ret
      exact ⟨rfl, HB3.out⟩
end Go.Proofs.Ytkjdagjhbjpcnaa.Pk
