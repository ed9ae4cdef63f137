/- The reference of index: Pages, Place, Encode. -/
import Derived.Test.YtpkfcbbnfhjjlaaIxF
import Derived.Test.YtpkfcbbnfhjjlaaRoB
import Derived.StillTailTactics
import Derived.Deep.RegionLaw
namespace Go.Proofs.Ytpkfcbbnfhjjlaa.Ix
open Go.RowKit Go.Proofs.Ytpkfcbbnfhjjlaa.Oct Go.Proofs.Ytpkfcbbnfhjjlaa.Sf
set_option linter.unusedVariables false

theorem pagesOf_step (n : Int) (h : 0 < n) : pagesOf n = pagesOf (n - 61) + 1 := by
  unfold pagesOf
  split <;> split <;> omega
theorem pagesOf_none (n : Int) (h : ¬ 0 < n) : pagesOf n = 0 := by
  unfold pagesOf
  rw [if_pos (by omega)]
theorem pagesOf_bound (n : Int) (h : n ≤ 100000) : 0 ≤ pagesOf n ∧ pagesOf n ≤ 100000 := by
  unfold pagesOf
  split <;> omega
theorem rpages_any (n : Int) (h1 : -9223372036854775808 ≤ n) (h2 : n ≤ 100000) (w : World) :
    Calls Try.prog 20 #[.int .i64 n] w fun e w' => e = .returned (.int .i64 (pagesOf n)) ∧ w = w' := by
  go_enter Try.func20, Try.ntmps20
  go_wp2_with fail
  go_loop [3, 4] (fun k x => ∃ (j : Nat) (y : Int), k = .int .i64 (j : Int) ∧ x = .int .i64 y ∧ -9223372036854775808 ≤ y ∧ y ≤ 100000 ∧ Hid ((j : Int) + pagesOf y = pagesOf n)) (fun _ x => (intOf x).toNat)
  case atStart => exact ⟨0, n, rfl, rfl, h1, h2, Lib.hid (by omega)⟩
  case round =>
    obtain ⟨j, y, rfl, rfl, hy1, hy2, HJ⟩ := hrel
    have hbn := pagesOf_bound n h2
    have hby := pagesOf_bound y hy2
    have hj := HJ.out
    by_cases hlt : 0 < y
    · have hst := pagesOf_step y hlt
      have hjm : (j : Int) ≤ 100000 := by omega
      have HN := Lib.hid (show ((j + 1 : Nat) : Int) + pagesOf (y - 61) = pagesOf n by omega)
      clear hst hbn hby hj
      go_wp2_with fail
      go_round
      case rel => exact ⟨j + 1, y - 61, by go_num, rfl, by omega, by omega, HN⟩
      case measure => simp [intOf]; omega
    · have hz := pagesOf_none y hlt
      have HE := Lib.hid (show (j : Int) = pagesOf n by omega)
      clear hz hbn hby hj
      go_wp2_with fail
      go_ret
      exact ⟨by rw [← HE.out]; rfl, rfl⟩
theorem rplace_neg (n : Int) (h1 : -9223372036854775808 ≤ n) (h : n < 0) (w : World) :
    Calls Try.prog 18 #[.int .i64 n] w fun e w' => e = .returned (.tuple #[.int .i64 (-1), .int .i64 (-1)]) ∧ w = w' := by
  go_enter Try.func18, Try.ntmps18
  go_wp2_with fail
  go_ret2
  exact ⟨rfl, rfl⟩
theorem rplace_pos (n : Nat) (h2 : n ≤ 100000) (w : World) :
    Calls Try.prog 18 #[.int .i64 (n : Int)] w fun e w' => e = .returned (.tuple #[.int .i64 ((n / 61 : Nat) : Int), .int .i64 ((n % 61 : Nat) : Int)]) ∧ w = w' := by
  have h0 : ¬ ((n : Int) < 0) := by omega
  go_enter Try.func18, Try.ntmps18
  go_wp2_with fail
  go_loop [0, 4] (fun x p => ∃ (j y : Nat), p = .int .i64 (j : Int) ∧ x = .int .i64 (y : Int) ∧ n = 61 * j + y) (fun x _ => (intOf x).toNat)
  case atStart => exact ⟨0, n, rfl, rfl, by omega⟩
  case round =>
    obtain ⟨j, y, rfl, rfl, hn⟩ := hrel
    by_cases hlt : 60 < y
    · have hli : (60 : Int) < (y : Int) := by omega
      have HN := Lib.hid (show n = 61 * (j + 1) + (y - 61) by omega)
      have HM := Lib.hid (show ((y - 61 : Nat) : Int) = (y : Int) - 61 by omega)
      clear hn
      have hj : (j : Int) ≤ 100000 := by have := HN.out; omega
      have hy : (y : Int) ≤ 100000 := by have := HN.out; omega
      go_wp2_with fail
      go_round
      case rel => exact ⟨j + 1, y - 61, by go_num, by rw [HM.out], HN.out⟩
      case measure => simp [intOf]; omega
    · have hli : ¬ (60 : Int) < (y : Int) := by omega
      have HD := Lib.hid (And.intro (show n / 61 = j by omega) (show n % 61 = y by omega))
      clear hn
      go_wp2_with fail
      go_ret2
      exact ⟨by have h := HD.out; rw [← h.1, ← h.2]; try rfl, rfl⟩

def REnc (w : World) (ps : List UInt8) (e : Ending) (w' : World) : Prop := ∃ a c, e = .returned (.tuple #[.slice a 128 c, .int .i64 0]) ∧ Oct.Told w' a ps ∧ Below w.heap.size w w'

set_option maxRecDepth 100000 in
set_option maxHeartbeats 1000000 in
theorem rencode_no (k : UInt8) (A : Option Addr) (n c : Nat) (l : List UInt16) (w : World) (hn : l.length = n) (hm : n ≤ maxLen) (hf : ¬ Fit k l) :
    Calls Try.prog 12 #[.int .u8 (k.toNat : Int), .slice A n c] w fun e w' => e = .returned (.tuple #[.slice none 0 0, .int .i64 50]) ∧ w = w' := by
  unfold maxLen at hm
  have hku := u8_lt k
  by_cases h4 : k.toNat < 4
  · have h4i : (k.toNat : Int) < 4 := by omega
    clear hf
    go_enter Try.func12, Try.ntmps12
    go_wp2_with fail
    go_ret2
    exact ⟨rfl, rfl⟩
  · have h4i : ¬ (k.toNat : Int) < 4 := by omega
    by_cases h5 : 5 < k.toNat
    · have h5i : (5 : Int) < (k.toNat : Int) := by omega
      clear hf
      go_enter Try.func12, Try.ntmps12
      go_wp2_with fail
      go_ret2
      exact ⟨rfl, rfl⟩
    · have h5i : ¬ (5 : Int) < (k.toNat : Int) := by omega
      have hl : (61 : Int) < n := by
        have : ¬ l.length ≤ 61 := fun h => hf ⟨by
          rcases (show k.toNat = 4 ∨ k.toNat = 5 by omega) with e | e
          · exact .inl (UInt8.toNat_inj.1 e)
          · exact .inr (UInt8.toNat_inj.1 e), h⟩
        omega
      clear hf
      go_enter Try.func12, Try.ntmps12
      go_wp2_with fail
      go_ret2
      exact ⟨rfl, rfl⟩
theorem fit_ints {k : UInt8} {l : List UInt16} (h : Fit k l) : (¬ (k.toNat : Int) < 4) ∧ ¬ (5 : Int) < (k.toNat : Int) := by
  rcases h.1 with rfl | rfl
  · exact ⟨by decide, by decide⟩
  · exact ⟨by decide, by decide⟩
theorem own_count (w : World) (n : Nat) (hn : n ≤ 61) : Oct.Own (w.alloc (.cells #[.int .u8 (n : Int)] 5)) w.heap.size (.slice (some ⟨w.heap.size, 0, none⟩) 1 1) (bytesOf n 1) := by
  have h := own_one w (UInt8.ofNat n)
  have e : ((UInt8.ofNat n).toNat : Int) = (n : Int) := by simp; omega
  rw [e] at h
  have e2 : bytesOf n 1 = [UInt8.ofNat n] := by
    simp [bytesOf, Nat.mod_eq_of_lt (show n < 256 by omega)]
  rw [e2]
  exact h
theorem row_two (w : World) (x : UInt16) : Row (w.alloc (.cells #[.int .u8 ((x.toNat / 256 : Nat) : Int), .int .u8 ((x.toNat % 256 : Nat) : Int)] 5)) w.heap.size (bytesOf x.toNat 2) := by
  have h := alloc_row w (bytesOf x.toNat 2)
  have hx := u16_lt x
  have e : vals (bytesOf x.toNat 2) = [.int .u8 ((x.toNat / 256 : Nat) : Int), .int .u8 ((x.toNat % 256 : Nat) : Int)] := by
    simp [vals, bytesOf]
    omega
  rw [e] at h
  exact h

set_option maxRecDepth 100000 in
set_option maxHeartbeats 1000000 in
theorem rencode_yes (k : UInt8) {w : World} {A : Option Addr} {n c : Nat} {l : List UInt16} (h : Wd w A n c l) (hf : Fit k l) :
    Calls Try.prog 12 #[.int .u8 (k.toNat : Int), .slice A n c] w (REnc w (idxPage k l)) := by
  have HD := Lib.hid h
  have HL := Lib.hid h.el
  have hn : n ≤ 61 := by have := hf.2; rw [h.el] at this; exact this
  have hnn : ¬ ((61 : Int) < (n : Int)) := by omega
  have HF := Lib.hid hf
  have hku := u8_lt k
  obtain ⟨f4, f5⟩ := fit_ints hf
  have O1 := Lib.hid (own_count w n hn)
  have b1 := Lib.hid ((Below.refl w.heap.size w).alloc (Nat.le_refl _) (.cells #[.int .u8 (n : Int)] 5))
  clear h hf
  go_enter Try.func12, Try.ntmps12
  go_wp2_with fail
  go_loopw [6, 7] (fun v i wr => ∃ j : Nat, j ≤ n ∧ i = .int .i64 (j : Int) ∧ Hid (Oct.Own wr w.heap.size v (bytesOf n 1 ++ nbytes (l.take j))) ∧ Hid (Below w.heap.size w wr)) (fun _ i _ => n - (intOf i).toNat)
  case atStart => exact ⟨0, Nat.zero_le _, rfl, Lib.hid (by simpa [nbytes] using O1.out), b1⟩
  case round =>
    obtain ⟨j, hj, rfl, HO, HB⟩ := hrel
    clear O1 b1
    by_cases hlt : j < n
    · obtain ⟨b, o, hA, hb, c1⟩ := (HD.out.below HB.out).at hlt
      have HS := Lib.hid (show bytesOf n 1 ++ nbytes (l.take (j + 1)) = bytesOf n 1 ++ nbytes (l.take j) ++ bytesOf (l[j]'(by rw [HL.out]; exact hlt)).toNat 2 by
        rw [List.take_succ_eq_append_getElem (by rw [HL.out]; exact hlt), nbytes_snoc]; simp [List.append_assoc])
      have HPL := Lib.hid (show (bytesOf n 1 ++ nbytes (l.take j)).length = 1 + 2 * j by
        rw [List.length_append, length_bytesOf, length_nbytes, List.length_take, HL.out, Nat.min_eq_left (by omega)])
      generalize l[j]'(by rw [HL.out]; exact hlt) = x at c1 HS
      generalize bytesOf n 1 ++ nbytes (l.take j) = P at *
      have hx := u16_lt x
      have hj0 : (0 : Int) ≤ (j : Int) := by omega
      have hjn : (j : Int) < (n : Int) := by omega
      have HR2 := Lib.hid (fun w' => row_two w' x)
      obtain ⟨hi, hhi⟩ : ∃ hi, hi = x.toNat / 256 := ⟨_, rfl⟩
      obtain ⟨lo, hlo⟩ : ∃ lo, lo = x.toNat % 256 := ⟨_, rfl⟩
      rw [← hhi, ← hlo] at HR2
      have hw1 : IntKind.u8.wrap (IntKind.u16.wrap ((x.toNat : Int) / 256)) = (hi : Int) := by simp [IntKind.wrap_u8, IntKind.wrap_u16]; omega
      have hw2 : IntKind.u8.wrap ((x.toNat : Int) % 256) = (lo : Int) := by simp [IntKind.wrap_u8]; omega
      have hw3 : IntKind.u8.wrap ((x.toNat : Int).tmod 256) = (lo : Int) := by rw [Int.tmod_eq_emod_of_nonneg (by omega)]; exact hw2
      clear hhi hlo
      have HBL := Lib.hid (length_bytesOf 2 x.toNat)
      subst hA
      have R3 := HR2.out wr
      have b3 := ((Below.refl wr.heap.size wr).alloc (Nat.le_refl _) (.cells #[.int .u8 (hi : Int), .int .u8 (lo : Int)] 5)).drew
      have HO3 := Lib.hid (HO.out.kept b3 (Nat.le_refl _))
      have HB3 := Lib.hid (HB.out.trans (b3.mono HB.out.size))
      have HT3 := Lib.hid ((R3.still (sdrew _)).has.told)
      have hsz := Lib.hid (Nat.le_trans HB.out.size b3.size)
      have hsum := Lib.hid (show P.length + 2 ≤ 140737488355328 by rw [HPL.out]; omega)
      clear R3 b3 HR2 HO HB
      go_wp2_with fail
      go_region_law (refine step_append_bytes rfl (.tmp 29) (.tmp 42) rfl w.heap.size _ P (bytesOf x.toNat 2) rfl HO3.out _ 2 2 rfl HBL.out HT3.out (fun h => by cases h) hsum.out hsz.out ?_; intro v5 w5 O5 B5)
      all_goals
        have HO5 := Lib.hid O5
        have HB5 := Lib.hid (HB3.out.trans B5)
        clear O5 B5
        go_wp2_with fail
        go_roundw
        case rel => exact ⟨j + 1, by omega, by go_num, Lib.hid (by rw [HS.out]; exact HO5.out), HB5⟩
        case measure => simp [intOf]; omega
    · obtain rfl : j = n := by omega
      have HPE := Lib.hid (show bytesOf j 1 ++ nbytes (l.take j) = idxBody l by
        rw [List.take_of_length_le (by rw [HL.out]; exact Nat.le_refl _)]; unfold idxBody; rw [HL.out])
      obtain ⟨a, cc, rfl, hT, hc1, hc2, hne⟩ := HO.out.slice
      rw [HPE.out] at hT hne
      have HLB := Lib.hid (show (bytesOf j 1 ++ nbytes (l.take j)).length = 1 + 2 * j by rw [HPE.out, length_body, HL.out])
      rw [HLB.out]
      have HT := Lib.hid hT
      have hnl : a = none → cc = 0 := fun e => by
        have : idxBody l ≠ [] := fun e => by have := length_body l; rw [e] at this; simp at this; omega
        obtain ⟨g, e', _⟩ := hne this
        rw [e] at e'
        cases e'
      have HNL := Lib.hid hnl
      clear hnl hT hne hc1 hc2
      go_wp2_with fail
      refine (rseal_any k a (1 + 2 * j) cc (idxBody l) (by rw [length_body, HL.out]) _ (by omega) HT.out HNL.out).mono ?_
      rintro e w9 ⟨v, rfl, O9, B9⟩
      obtain ⟨a', c', rfl, hT', _⟩ := O9.slice
      have HT9 := Lib.hid hT'
      have HBF := Lib.hid (HB.out.trans (B9.mono HB.out.size))
      have hlp : (page k (idxBody l)).length = 128 := length_idxPage k l HF.out.2
      rw [hlp]
      clear O9 hT' B9 hlp
      go_wp2_with fail
      go_ret2
      exact ⟨a', c', rfl, HT9.out, HBF.out⟩
end Go.Proofs.Ytpkfcbbnfhjjlaa.Ix
