/- Contract: awake, the chapter's examples. -/
import Derived.Test.YtpkfcbbnfhjjlaaIxE
namespace Go.Proofs.Ytpkfcbbnfhjjlaa.Ix
open Go.RowKit Go.Proofs.Ytpkfcbbnfhjjlaa.Oct Go.Proofs.Ytpkfcbbnfhjjlaa.Sf
set_option linter.unusedVariables false

theorem made_words (n : Nat) : madeCells (Value.int .u16 0).cells n = (wvals (List.replicate n 0)).toArray := by
  apply Array.ext
  · simp [madeCells, wvals]
  · intro i h1 h2
    simp [madeCells, wvals, Value.cells, Nat.mod_one]
theorem run_make_words (w : World) (n : Nat) (hn : n ≤ 1000) :
    (Instr.makeSlice 22 (.int .i64 (n : Int)) (.int .i64 (n : Int))).run Try.prog w = .ok (.slice (some ⟨w.heap.size, 0, none⟩) n n) (w.alloc (.cells (wvals (List.replicate n 0)).toArray 43)) := by
  obtain ⟨i0, hi, hz0, hz1, hz2⟩ := info_parts word_info
  have h := run_make (P := Try.prog) w 22 43 i0 (.int .u16 0) Try.underlying22 hi hz0 .i64 .i64 n n (by omega) (by omega) (by rw [hz2]; omega) (by omega)
  rw [hz1, Nat.mul_one, Int.toNat_natCast, made_words] at h
  exact h
theorem wd_lit (w : World) (l : List UInt16) (h : l.length ≤ 1000) : Wd (w.alloc (.cells (wvals l).toArray 43)) (some ⟨w.heap.size, 0, none⟩) l.length l.length l :=
  ⟨rfl, Nat.le_refl _, by unfold maxLen; omega, (alloc_rowV w 43 (wvals l)).has.told⟩
theorem head7 : (idxPage 4 [258, 7]).take 7 = [4, 2, 1, 2, 0, 7, 0] := by decide

set_option maxRecDepth 100000 in
set_option maxHeartbeats 1000000 in
theorem awake_any (w : World) : Calls Try.prog 9 #[] w fun e w' => e = .returned (.bool true) ∧ Below w.heap.size w w' := by
  have W1 := wd_lit w [258, 7] (by decide)
  have b1 := (Below.refl w.heap.size w).alloc (Nat.le_refl _) (.cells (wvals [258, 7]).toArray 43)
  change Wd (w.alloc (.cells #[.int .u16 258, .int .u16 7] 43)) _ _ _ _ at W1
  change Below _ _ (w.alloc (.cells #[.int .u16 258, .int .u16 7] 43)) at b1
  have HW1 := Lib.hid W1
  have HB1 := Lib.hid b1
  clear W1 b1
  go_enter Try.func9, Try.ntmps9
  go_wp2_with fail
  generalize w.alloc (.cells #[.int .u16 258, .int .u16 7] 43) = w1 at *
  refine (encode_yes 4 HW1.out ⟨.inl rfl, by decide⟩).mono ?_
  rintro e w2 ⟨g, rfl, F2⟩
  have HF := Lib.hid F2
  have HB2 := Lib.hid (HB1.out.trans (F2.below.mono HB1.out.size))
  clear F2 HW1 HB1
  go_wp2_with fail
  have R3 := alloc_row w2 [4, 2, 1, 2, 0, 7, 0]
  have b3 := (Below.refl w2.heap.size w2).alloc (Nat.le_refl _) (.cells (vals [4, 2, 1, 2, 0, 7, 0]).toArray 5)
  change Row (w2.alloc (.cells #[.int .u8 4, .int .u8 2, .int .u8 1, .int .u8 2, .int .u8 0, .int .u8 7, .int .u8 0] 5)) _ _ at R3
  change Below _ _ (w2.alloc (.cells #[.int .u8 4, .int .u8 2, .int .u8 1, .int .u8 2, .int .u8 0, .int .u8 7, .int .u8 0] 5)) at b3
  generalize w2.alloc (.cells #[.int .u8 4, .int .u8 2, .int .u8 1, .int .u8 2, .int .u8 0, .int .u8 7, .int .u8 0] 5) = w3 at *
  have P3 := HF.out.has.below HF.out.hi b3
  have HP3 := Lib.hid (show Has w3 g 0 (idxPage 4 [258, 7]) from P3)
  have HB3 := Lib.hid (HB2.out.trans (b3.mono HB2.out.size))
  refine (equal_yes _ _ 7 7 128 7 ((idxPage 4 [258, 7]).take 7) [4, 2, 1, 2, 0, 7, 0] head7 (by rw [head7]; rfl) rfl _ ((HP3.out.pre 7).told) R3.has.told).mono ?_
  rintro e w' ⟨rfl, rfl⟩
  clear HF HB2 R3 b3 P3
  go_wp2_with fail
  refine (decode_page 4 g 0 128 [258, 7] _ ⟨.inl rfl, by decide⟩ HP3.out (by decide) (by decide)).mono ?_
  rintro e w4 ⟨v, rfl, O4, B4⟩
  obtain ⟨A, cp, rfl, V4, _⟩ := OwnW.told O4
  have hgl := has_lt HP3.out (by decide)
  have HP4 := Lib.hid (HP3.out.below hgl B4)
  have HV4 := Lib.hid V4
  have HB4 := Lib.hid (HB3.out.trans (B4.mono HB3.out.size))
  clear HP3 HB3 O4 B4 V4 hgl
  go_wp2_with fail
  refine (decode_other 5 4 g 0 128 [258, 7] _ (by decide) (by decide) HP4.out (by decide) (by decide)).mono ?_
  rintro e w5 ⟨rfl, B5⟩
  have HV5 := Lib.hid (HV4.out.below B5)
  have HB5 := Lib.hid (HB4.out.trans (B5.mono HB4.out.size))
  clear HP4 HV4 HB4 B5
  go_wp2_with fail
  refine (encode_no 3 none 0 0 [] w5 rfl (by decide) (by decide)).mono ?_
  rintro e w' ⟨rfl, rfl⟩
  have hmk : (Instr.makeSlice 22 (.int .i64 62) (.int .i64 62)).run Try.prog w5 = .ok (.slice (some ⟨w5.heap.size, 0, none⟩) 62 62) (w5.alloc (.cells (wvals (List.replicate 62 0)).toArray 43)) := run_make_words w5 62 (by omega)
  have b6 := (Below.refl w5.heap.size w5).alloc (Nat.le_refl _) (.cells (wvals (List.replicate 62 0)).toArray 43)
  generalize w5.alloc (.cells (wvals (List.replicate 62 0)).toArray 43) = w6 at *
  have HV6 := Lib.hid (HV5.out.below b6)
  have HB6 := Lib.hid (HB5.out.trans (b6.mono HB5.out.size))
  clear HV5 HB5 b6
  go_wp2_with fail
  refine (encode_no 5 _ 62 62 (List.replicate 62 0) w6 rfl (by decide) (by decide)).mono ?_
  rintro e w' ⟨rfl, rfl⟩
  clear hmk
  go_wp2_with fail
  refine (place_pos 61 (by decide) w6).mono ?_
  rintro e w' ⟨rfl, rfl⟩
  go_wp2_with fail
  refine (place_neg (-1) (by decide) (by decide) w6).mono ?_
  rintro e w' ⟨rfl, rfl⟩
  go_wp2_with fail
  have W7 := wd_lit w6 [258, 7] (by decide)
  have b7 := (Below.refl w6.heap.size w6).alloc (Nat.le_refl _) (.cells (wvals [258, 7]).toArray 43)
  change Wd (w6.alloc (.cells #[.int .u16 258, .int .u16 7] 43)) _ _ _ _ at W7
  change Below _ _ (w6.alloc (.cells #[.int .u16 258, .int .u16 7] 43)) at b7
  generalize w6.alloc (.cells #[.int .u16 258, .int .u16 7] 43) = w7 at *
  refine (eqwords_any (HV6.out.below b7) W7).mono ?_
  rintro e w8 ⟨rfl, S8⟩
  have HB8 := Lib.hid ((HB6.out.trans (b7.mono HB6.out.size)).trans (S8.below _))
  clear W7 b7 S8 HV6 HB6
  rw [show (([258, 7] : List UInt16) == [258, 7]) = true from by decide]
  go_wp2_with fail
  refine (pages_any 61 (by decide) (by decide) _).mono ?_
  rintro e w' ⟨rfl, rfl⟩
  rw [show pagesOf 61 = 1 from by decide]
  go_wp2_with fail
  refine (pages_any 62 (by decide) (by decide) _).mono ?_
  rintro e w' ⟨rfl, rfl⟩
  rw [show pagesOf 62 = 2 from by decide]
  go_wp2_with fail
  refine (pages_any 0 (by decide) (by decide) _).mono ?_
  rintro e w' ⟨rfl, rfl⟩
  rw [show pagesOf 0 = 0 from by decide]
  go_wp2_with fail
  refine (pages_any (-5) (by decide) (by decide) _).mono ?_
  rintro e w' ⟨rfl, rfl⟩
  rw [show pagesOf (-5) = 0 from by decide]
  go_wp2_with fail
  go_ret
  exact ⟨rfl, HB8.out⟩
end Go.Proofs.Ytpkfcbbnfhjjlaa.Ix
