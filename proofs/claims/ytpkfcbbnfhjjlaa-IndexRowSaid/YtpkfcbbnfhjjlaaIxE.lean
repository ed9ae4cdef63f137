/- Contracts: index.Pages, index.Place, the verifier's EqualWords, awake. -/
import Derived.Test.YtpkfcbbnfhjjlaaIxD
namespace Go.Proofs.Ytpkfcbbnfhjjlaa.Ix
open Go.RowKit Go.Proofs.Ytpkfcbbnfhjjlaa.Oct Go.Proofs.Ytpkfcbbnfhjjlaa.Sf
set_option linter.unusedVariables false

def pagesOf (n : Int) : Int := if n < 1 then 0 else (n - 1) / 61 + 1
theorem pages_any (n : Int) (h1 : -9223372036854775808 ≤ n) (h2 : n ≤ 9223372036854775807) (w : World) :
    Calls Try.prog 19 #[.int .i64 n] w fun e w' => e = .returned (.int .i64 (pagesOf n)) ∧ w = w' := by
  unfold pagesOf
  by_cases h : n < 1
  · rw [if_pos h]
    go_enter Try.func19, Try.ntmps19
    go_wp2
    go_ret
    exact ⟨rfl, rfl⟩
  · rw [if_neg h]
    have ht : (n - 1).tdiv 61 = (n - 1) / 61 := Int.tdiv_eq_ediv_of_nonneg (by omega)
    go_enter Try.func19, Try.ntmps19
    go_wp2
    go_ret
    exact ⟨by first | rfl | (congr 1; congr 1; omega), rfl⟩
theorem place_neg (n : Int) (h1 : -9223372036854775808 ≤ n) (h : n < 0) (w : World) :
    Calls Try.prog 17 #[.int .i64 n] w fun e w' => e = .returned (.tuple #[.int .i64 (-1), .int .i64 (-1)]) ∧ w = w' := by
  go_enter Try.func17, Try.ntmps17
  go_wp2
  go_ret2
  exact ⟨rfl, rfl⟩
theorem place_pos (n : Nat) (h2 : n ≤ 9223372036854775807) (w : World) :
    Calls Try.prog 17 #[.int .i64 (n : Int)] w fun e w' => e = .returned (.tuple #[.int .i64 ((n / 61 : Nat) : Int), .int .i64 ((n % 61 : Nat) : Int)]) ∧ w = w' := by
  have h0 : ¬ ((n : Int) < 0) := by omega
  have ht : (n : Int).tdiv 61 = ((n / 61 : Nat) : Int) := by rw [Int.tdiv_eq_ediv_of_nonneg (by omega)]; rfl
  have hm : (n : Int).tmod 61 = ((n % 61 : Nat) : Int) := by rw [Int.tmod_eq_emod_of_nonneg (by omega)]; rfl
  go_enter Try.func17, Try.ntmps17
  go_wp2
  go_ret2
  refine ⟨?_, rfl⟩
  congr 3

theorem still_trans {a b c : World} (h : Still a b) (k : Still b c) : Still a c := ⟨k.os.trans h.os, k.tape.trans h.tape, k.output.trans h.output, k.heap.trans h.heap⟩

set_option maxHeartbeats 400000 in
theorem eqwords_any {w : World} {A B : Option Addr} {n c m d : Nat} {xs ys : List UInt16} (h1 : Wd w A n c xs) (h2 : Wd w B m d ys) :
    Calls Try.prog 16 #[.slice A n c, .slice B m d] w fun e w' => e = .returned (.bool (xs == ys)) ∧ Still w w' := by
  have HX := Lib.hid h1
  have HY := Lib.hid h2
  have hn := h1.el
  have hm := h2.el
  have hkm : n ≤ 9223372036854775807 := by have := h1.kc; have := h1.km; unfold maxLen at *; omega
  clear h1 h2
  by_cases hnm : n = m
  · subst hnm
    have HN := Lib.hid hn
    have HM := Lib.hid hm
    clear hn hm
    go_enter Try.func16, Try.ntmps16
    go_wp2_with fail
    go_loopw [5] (fun i wr => ∃ k : Nat, k ≤ n ∧ i = .int .i64 (k : Int) ∧ Hid (xs.drop k = ys.drop k) ∧ Hid (Still w wr)) (fun i _ => (intOf i).toNat)
    case atStart => exact ⟨n, Nat.le_refl _, rfl, Lib.hid (by rw [List.drop_of_length_le (by rw [HN.out]; exact Nat.le_refl _), List.drop_of_length_le (by rw [HM.out]; exact Nat.le_refl _)]), Lib.hid (Still.drewN w 0)⟩
    case round =>
      obtain ⟨k, hk, rfl, HD, HST⟩ := hrel
      by_cases h0 : 0 < k
      · obtain ⟨b, o, hA, hb, c1⟩ := (HX.out.still HST.out).at (show k - 1 < n by omega)
        obtain ⟨b', o', hB, hb', c2⟩ := (HY.out.still HST.out).at (show k - 1 < n by omega)
        have HG := Lib.hid (show xs.drop (k - 1) = xs[k - 1]'(by rw [HN.out]; omega) :: xs.drop k by
          have := List.drop_eq_getElem_cons (l := xs) (i := k - 1) (by rw [HN.out]; omega)
          rwa [show k - 1 + 1 = k by omega] at this)
        have HG2 := Lib.hid (show ys.drop (k - 1) = ys[k - 1]'(by rw [HM.out]; omega) :: ys.drop k by
          have := List.drop_eq_getElem_cons (l := ys) (i := k - 1) (by rw [HM.out]; omega)
          rwa [show k - 1 + 1 = k by omega] at this)
        generalize xs[k - 1]'(by rw [HN.out]; omega) = x at c1 HG
        generalize ys[k - 1]'(by rw [HM.out]; omega) = y at c2 HG2
        obtain ⟨j, rfl⟩ : ∃ j, k = j + 1 := ⟨k - 1, by omega⟩
        simp only [Nat.add_sub_cancel] at c1 c2 HG HG2
        have hx := u16_lt x
        have hy := u16_lt y
        have hj0 : (0 : Int) ≤ (j : Int) := by omega
        have hjn : (j : Int) < (n : Int) := by omega
        subst hA hB
        by_cases hxy : x = y
        · subst hxy
          have ht : ((x.toNat : Int) != (x.toNat : Int)) = false := by simp
          have HS := Lib.hid (show xs.drop j = ys.drop j by rw [HG.out, HG2.out, HD.out])
          clear HG HG2 HD
          go_wp2_with fail
          go_quiet (fail)
          go_wp2_with fail
          go_roundw
          case rel => exact ⟨j, by omega, by go_num, HS, Lib.hid (still_trans HST.out (Still.drewN _ _))⟩
          case measure => simp [intOf]
        · have hne : ¬ xs = ys := fun e => by
            have h1 := HG.out
            rw [e, HG2.out] at h1
            exact hxy (List.cons.inj h1).1.symm
          have ht : ((x.toNat : Int) != (y.toNat : Int)) = true := by rw [bne_iff_ne]; intro e; exact hxy (UInt16.toNat_inj.1 (by omega))
          have hf := Lib.hid (show (xs == ys) = false by rw [beq_eq_false_iff_ne]; exact hne)
          clear HG HG2 HD hxy hne
          go_wp2_with fail
          go_quiet (fail)
          go_wp2_with fail
          go_ret
          exact ⟨by rw [hf.out]; rfl, still_trans HST.out (Still.drewN _ _)⟩
      · obtain rfl : k = 0 := by omega
        have hf := Lib.hid (show (xs == ys) = true by rw [beq_iff_eq]; exact HD.out)
        go_wp2_with fail
        go_ret
        exact ⟨by rw [hf.out]; rfl, HST.out⟩
  · have hne : ¬ xs = ys := fun e => hnm (by rw [← hn, ← hm, e])
    have ht : ((n : Int) != (m : Int)) = true := by rw [bne_iff_ne]; omega
    have hf : (xs == ys) = false := by rw [beq_eq_false_iff_ne]; exact hne
    rw [hf]
    clear hn hm
    go_enter Try.func16, Try.ntmps16
    go_wp2_with fail
    go_ret
    exact ⟨rfl, Still.drewN w 0⟩
end Go.Proofs.Ytpkfcbbnfhjjlaa.Ix
