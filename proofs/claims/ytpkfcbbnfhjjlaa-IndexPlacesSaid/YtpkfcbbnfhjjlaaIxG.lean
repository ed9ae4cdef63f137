/- The walk of IndexPlaces. -/
import Derived.Test.YtpkfcbbnfhjjlaaIxP
namespace Go.Proofs.Ytpkfcbbnfhjjlaa.Ix
open Go.RowKit Go.Proofs.Ytpkfcbbnfhjjlaa.Oct Go.Proofs.Ytpkfcbbnfhjjlaa.Sf
set_option linter.unusedVariables false

/-- The number that stands next behind q pages and r more. -/
theorem next_in (q r : Nat) (hr : r < 60) : (61 * q + r + 1) / 61 = q ∧ (61 * q + r + 1) % 61 = r + 1 := by omega
theorem next_on (q : Nat) : (61 * q + 60 + 1) / 61 = q + 1 ∧ (61 * q + 60 + 1) % 61 = 0 := by omega
/-- Where the loop stands behind k rounds: the last place, the last page. -/
def Stood (k : Nat) (at' on : Int) : Prop := (k = 0 ∧ at' = -1 ∧ on = 0) ∨ ∃ q r : Nat, r < 61 ∧ k = 61 * q + r + 1 ∧ at' = (r : Int) ∧ on = (q : Int)
theorem pages_zero : pagesOf 0 = 0 := by decide
theorem pages_pos (q r : Nat) (hr : r < 61) : pagesOf ((61 * q + r + 1 : Nat) : Int) = ((q + 1 : Nat) : Int) := by
  unfold pagesOf
  rw [if_neg (by omega)]
  omega
theorem pages_next (m : Nat) : pagesOf ((m : Int) + 1) = ((m / 61 + 1 : Nat) : Int) := by
  unfold pagesOf
  rw [if_neg (by omega)]
  omega

set_option maxRecDepth 100000 in
set_option maxHeartbeats 1000000 in
theorem places_walk (n : UInt16) (w : World) : Calls Try.prog 6 #[.int .u16 (n.toNat : Int)] w fun e w' => e = .returned (.bool true) ∧ Below w.heap.size w w' := by
  have hn := u16_lt n
  have hmod : (n.toNat : Int).tmod 5001 = ((n.toNat % 5001 : Nat) : Int) := by rw [Int.tmod_eq_emod_of_nonneg (by omega)]; rfl
  obtain ⟨M, hM⟩ : ∃ M, M = n.toNat % 5001 := ⟨_, rfl⟩
  have hMl : M < 5001 := by rw [hM]; exact Nat.mod_lt _ (by decide)
  rw [← hM] at hmod
  clear hM
  have HPG := Lib.hid (pages_any (M : Int) (by omega) (by omega) w)
  go_enter Try.func6, Try.ntmps6
  go_wp2_with fail
  refine HPG.out.mono ?_
  rintro e w' ⟨rfl, rfl⟩
  clear HPG
  obtain ⟨P, hP⟩ : ∃ P, P = pagesOf (M : Int) := ⟨_, rfl⟩
  rw [← hP]
  have HP := Lib.hid hP
  clear hP
  go_wp2_with fail
  go_loop [5, 6, 16] (fun a o i => ∃ (k : Nat) (x y : Int), k ≤ M ∧ i = .int .i64 (k : Int) ∧ a = .int .i64 x ∧ o = .int .i64 y ∧ Hid (Stood k x y)) (fun _ _ i => M - (intOf i).toNat)
  case atStart => exact ⟨0, -1, 0, Nat.zero_le _, rfl, rfl, rfl, Lib.hid (.inl ⟨rfl, rfl, rfl⟩)⟩
  case round =>
    obtain ⟨k, x, y, hk, rfl, rfl, rfl, HS⟩ := hrel
    by_cases hlt : k < M
    · have hkm : (k : Int) < (M : Int) := by omega
      have HPL := Lib.hid (place_pos k (by omega) w)
      rcases HS.out with ⟨rfl, rfl, rfl⟩ | ⟨q, r, hr, rfl, rfl, rfl⟩
      · go_wp2_with fail
        refine HPL.out.mono ?_
        rintro e w' ⟨rfl, rfl⟩
        rw [show 0 / 61 = 0 from rfl, show 0 % 61 = 0 from rfl]
        go_wp2_with fail
        exact ⟨⟨1, 0, 0, by omega, rfl, rfl, rfl, Lib.hid (.inr ⟨0, 0, by decide, rfl, rfl, rfl⟩)⟩, by simp [intOf]; omega⟩
      · by_cases h60 : r < 60
        · have hr0 : (r : Int) + 1 < 61 := by omega
          have hrr : ((r + 1 : Nat) : Int) = (r : Int) + 1 := by omega
          go_wp2_with fail
          refine HPL.out.mono ?_
          rintro e w' ⟨rfl, rfl⟩
          rw [(next_in q r h60).1, (next_in q r h60).2]
          go_wp2_with fail
          exact ⟨⟨61 * q + (r + 1) + 1, _, _, by omega, by congr 1, rfl, rfl, Lib.hid (.inr ⟨q, r + 1, by omega, rfl, by omega, rfl⟩)⟩, by simp [intOf]; omega⟩
        · obtain rfl : r = 60 := by omega
          have h61 : ((0 : Int) < 61) := by decide
          go_wp2_with fail
          refine HPL.out.mono ?_
          rintro e w' ⟨rfl, rfl⟩
          rw [(next_on q).1, (next_on q).2]
          go_wp2_with fail
          exact ⟨⟨61 * (q + 1) + 0 + 1, _, _, by omega, by congr 1, rfl, rfl, Lib.hid (.inr ⟨q + 1, 0, by omega, rfl, rfl, by omega⟩)⟩, by simp [intOf]; omega⟩
    · obtain rfl : k = M := by omega
      rcases HS.out with ⟨rfl, rfl, rfl⟩ | ⟨q, r, hr, rfl, rfl, rfl⟩
      · obtain rfl : P = 0 := HP.out.trans pages_zero
        go_wp2_with fail
        refine (pages_any 1 (by decide) (by decide) w).mono ?_
        rintro e w' ⟨rfl, rfl⟩
        rw [show pagesOf 1 = 1 from by decide]
        go_wp2_with fail
        refine (pages_any 1 (by decide) (by decide) _).mono ?_
        rintro e w' ⟨rfl, rfl⟩
        rw [show pagesOf 1 = 1 from by decide]
        go_wp2_with fail
        refine (awake_any _).mono ?_
        rintro e w3 ⟨rfl, B3⟩
        go_wp2_with fail
        go_ret
        exact ⟨rfl, B3⟩
      · have hp0 := HP.out.trans (pages_pos q r hr)
        obtain rfl : P = (q : Int) + 1 := by omega
        clear HP hp0
        have hpos : (0 : Int) < 61 * (q : Int) + (r : Int) + 1 := by omega
        have hne0 : ¬ (61 * (q : Int) + (r : Int) + 1 = 0) := by omega
        by_cases h60 : r < 60
        · have hpn := Lib.hid (show pagesOf (61 * (q : Int) + (r : Int) + 1 + 1) = (q : Int) + 1 by
            have := pages_next (61 * q + r + 1)
            rw [(next_in q r h60).1] at this
            rw [show (61 * (q : Int) + (r : Int) + 1 + 1) = (((61 * q + r + 1 : Nat) : Int) + 1) by omega, this]
            omega)
          have hmd : (61 * (q : Int) + (r : Int) + 1).tmod 61 = (r : Int) + 1 := by
            rw [Int.tmod_eq_emod_of_nonneg (by omega)]; omega
          have hr1 : ¬ ((r : Int) + 1 = 0) := by omega
          go_wp2_with fail
          refine (pages_any (61 * (q : Int) + (r : Int) + 1 + 1) (by omega) (by omega) w).mono ?_
          rintro e w' ⟨rfl, rfl⟩
          rw [hpn.out]
          go_wp2_with fail
          refine (pages_any (61 * (q : Int) + (r : Int) + 1 + 1) (by omega) (by omega) _).mono ?_
          rintro e w' ⟨rfl, rfl⟩
          rw [hpn.out]
          go_wp2_with fail
          refine (awake_any _).mono ?_
          rintro e w3 ⟨rfl, B3⟩
          go_wp2_with fail
          go_ret
          exact ⟨rfl, B3⟩
        · obtain rfl : r = 60 := by omega
          have hpn := Lib.hid (show pagesOf (61 * (q : Int) + 60 + 1 + 1) = (q : Int) + 1 + 1 by
            have := pages_next (61 * q + 60 + 1)
            rw [(next_on q).1] at this
            rw [show (61 * (q : Int) + 60 + 1 + 1) = (((61 * q + 60 + 1 : Nat) : Int) + 1) by omega, this]
            omega)
          have hmd : (61 * (q : Int) + 60 + 1).tmod 61 = 0 := by
            rw [Int.tmod_eq_emod_of_nonneg (by omega)]; omega
          go_wp2_with fail
          refine (pages_any (61 * (q : Int) + 60 + 1 + 1) (by omega) (by omega) w).mono ?_
          rintro e w' ⟨rfl, rfl⟩
          rw [hpn.out]
          go_wp2_with fail
          refine (pages_any (61 * (q : Int) + 60 + 1 + 1) (by omega) (by omega) _).mono ?_
          rintro e w' ⟨rfl, rfl⟩
          rw [hpn.out]
          go_wp2_with fail
          refine (awake_any _).mono ?_
          rintro e w3 ⟨rfl, B3⟩
          go_wp2_with fail
          go_ret
          exact ⟨rfl, B3⟩

theorem places_walk' (a : Int) (W : World) (h : (Lit.int .u16 a).wf = true) : Calls Try.prog 6 #[.int .u16 a] W fun e w' => e = .returned (.bool true) ∧ Below W.heap.size W w' := by
  obtain ⟨n, rfl⟩ := u16_of h
  exact places_walk n W
end Go.Proofs.Ytpkfcbbnfhjjlaa.Ix
