/- The walk of 'awake'. -/
import Derived.Test.YthcjhbjhghfhjaaDskO
namespace Go.Proofs.Ythcjhbjhghfhjaa.Dsk
open Go.RowKit Go.Proofs.Ythcjhbjhghfhjaa.Oct
set_option linter.unusedVariables false

set_option maxRecDepth 100000 in
set_option maxHeartbeats 4000000 in
theorem awake_any (w0 : World) : Calls Try.prog 9 #[] w0 (BoolPost w0 true) := by
  go_enter Try.func9, Try.ntmps9
  go_wp2_with fail
  refine (filled_any 1 1 rfl _).mono ?_
  rintro e w1 ⟨g1, rfl, hg1, R1, B1⟩
  have HR1 := Lib.hid R1
  have HB1 := Lib.hid B1
  clear R1 B1
  go_wp2_with fail
  refine (filled_any 2 2 rfl _).mono ?_
  rintro e w2 ⟨g2, rfl, hg2, R2, B2⟩
  have HR2 := Lib.hid R2
  have HB2 := Lib.hid B2
  clear R2 B2
  go_wp2_with fail
  refine (new_is 16 (by omega) (by omega) _).mono ?_
  rintro e w3 ⟨a, rfl, I3, B3⟩
  have E : Env w0 w3 w2.heap.size a g1 g2 (fresh 16) := ⟨I3, row_older (row_older HR1.out HB2.out) B3, row_older HR2.out B3, (HB1.out.trans (HB2.out.mono HB1.out.size)).trans (B3.mono (Nat.le_trans HB1.out.size HB2.out.size)), Nat.le_trans HB1.out.size HB2.out.size⟩
  clear I3 B3 HR1 HB1 HR2 HB2
  generalize w2.heap.size = base at E
  go_wp2_with fail
  refine (new_bad 15 (by omega) _).mono ?_
  rintro e w' ⟨rfl, rfl⟩
  -- the write of ones
  go_wp2_with fail
  refine (write_is E.I w1_.1 3 _ 128 128 ones rfl (fun w' t => (row_turned E.R1 t).has.told)).mono ?_
  rintro e w4 ⟨rfl, I, T⟩
  replace E : Env w0 w4 base a g1 g2 a1.2 := E.did I T
  clear I T
  rw [show ((fresh 16).doWrite 3 ones).1 = 0 from e1]
  go_wp2_with fail
  have b := (Below.refl w4.heap.size w4).alloc (Nat.le_refl _) (.cells #[.int .u8 1] 5)
  have R : Row (w4.alloc (.cells #[.int .u8 1] 5)) w4.heap.size [1] := alloc_row w4 [1]
  replace E := E.old b
  refine (says_law E.I g1_.1 3 3 rfl (by rw [n1_.1]; omega) _ 1 1 [1] rfl (by omega) R.has.told (fun _ x hx => by cases hx; exact R.lt)).mono ?_
  rintro e w5 ⟨rfl, b5⟩
  rw [s1_]
  replace E := E.old b5
  clear b R b5
  go_wp2_with fail
  refine (cached_is E.I).mono ?_
  rintro e w6 ⟨g, rfl, hg, RI, b6⟩
  rw [l1_]
  replace E := E.old b6
  have LG := IRow.lt RI
  clear b6 hg
  go_wp2_with fail
  have b := (Below.refl w6.heap.size w6).alloc (Nat.le_refl _) (.cells #[.int .i64 3] 3)
  have R : IRow (w6.alloc (.cells #[.int .i64 3] 3)) w6.heap.size [3] := heap_alloc_new w6 _
  replace E := E.old b
  have RI2 : IRow (w6.alloc (.cells #[.int .i64 3] 3)) g a1.2.places := (b.block g LG).trans RI
  refine (eqplaces_any _ _ 1 1 1 1 a1.2.places [3] (by rw [p1_]; rfl) rfl _ RI2.ints R.ints (by omega)).mono ?_
  rintro e w7 ⟨rfl, S7⟩
  rw [decide_eq_true p1_]
  replace E := E.old (S7.below _)
  clear b R RI2 S7 RI LG
  go_wp2_with fail
  refine (crash_is E.I none 0 0 [] rfl (-1) 0 (by decide) (.inl rfl) (aside_none _ _)).mono ?_
  rintro e w8 ⟨rfl, I, T⟩
  replace E : Env w0 w8 base a g1 g2 a2.2 := E.did I T
  clear I T
  rw [show (a1.2.doCrash [] (-1) 0).1 = 0 from e2]
  go_wp2_with fail
  have b := (Below.refl w8.heap.size w8).alloc (Nat.le_refl _) (.cells #[.int .u8 0] 5)
  have R : Row (w8.alloc (.cells #[.int .u8 0] 5)) w8.heap.size [0] := alloc_row w8 [0]
  replace E := E.old b
  refine (says_law E.I g1_.2.1 3 3 rfl (by rw [n1_.2.1]; omega) _ 1 1 [0] rfl (by omega) R.has.told (fun _ x hx => by cases hx; exact R.lt)).mono ?_
  rintro e w9 ⟨rfl, b9⟩
  rw [s2_]
  replace E := E.old b9
  clear b R b9
  go_wp2_with fail
  refine (write_is E.I w1_.2.1 3 _ 128 128 ones rfl (fun w' t => (row_turned E.R1 t).has.told)).mono ?_
  rintro e w10 ⟨rfl, I, T⟩
  replace E : Env w0 w10 base a g1 g2 a3.2 := E.did I T
  clear I T
  rw [show (a2.2.doWrite 3 ones).1 = 0 from e3]
  go_wp2_with fail
  refine (flush_is E.I).mono ?_
  rintro e w11 ⟨rfl, I, T⟩
  replace E : Env w0 w11 base a g1 g2 a4.2 := E.did I T
  clear I T
  rw [show a3.2.doFlush.1 = 0 from e4]
  go_wp2_with fail
  refine (write_is E.I w1_.2.2.1 3 _ 128 128 twos rfl (fun w' t => (row_turned E.R2 t).has.told)).mono ?_
  rintro e w12 ⟨rfl, I, T⟩
  replace E : Env w0 w12 base a g1 g2 a5.2 := E.did I T
  clear I T
  rw [show (a4.2.doWrite 3 twos).1 = 0 from e5]
  go_wp2_with fail
  refine (crash_is E.I none 0 0 [] rfl 0 2 (by decide) (.inl rfl) (aside_none _ _)).mono ?_
  rintro e w13 ⟨rfl, I, T⟩
  replace E : Env w0 w13 base a g1 g2 a6.2 := E.did I T
  clear I T
  rw [show (a5.2.doCrash [] 0 2).1 = 0 from e6]
  go_wp2_with fail
  have b := (Below.refl w13.heap.size w13).alloc (Nat.le_refl _) (.cells #[.int .u8 2, .int .u8 2, .int .u8 1, .int .u8 1] 5)
  have R : Row (w13.alloc (.cells #[.int .u8 2, .int .u8 2, .int .u8 1, .int .u8 1] 5)) w13.heap.size [2, 2, 1, 1] := alloc_row w13 [2, 2, 1, 1]
  replace E := E.old b
  refine (says_law E.I g1_.2.2.1 3 3 rfl (by rw [n1_.2.2.1]; omega) _ 4 4 [2, 2, 1, 1] rfl (by omega) R.has.told (fun _ x hx => by cases hx; exact R.lt)).mono ?_
  rintro e w14 ⟨rfl, b14⟩
  rw [s6_]
  replace E := E.old b14
  clear b R b14
  go_wp2_with fail
  refine (arm_is E.I 1 (by omega)).mono ?_
  rintro e w15 ⟨rfl, I, T⟩
  replace E : Env w0 w15 base a g1 g2 a7.2 := E.did I T
  clear I T
  rw [show (a6.2.doArm 1).1 = 0 from e7]
  go_wp2_with fail
  refine (write_is E.I w1_.2.2.2.1 4 _ 128 128 twos rfl (fun w' t => (row_turned E.R2 t).has.told)).mono ?_
  rintro e w16 ⟨rfl, I, T⟩
  replace E : Env w0 w16 base a g1 g2 a8.2 := E.did I T
  clear I T
  rw [show (a7.2.doWrite 4 twos).1 = 0 from e8]
  go_wp2_with fail
  refine (flush_is E.I).mono ?_
  rintro e w17 ⟨rfl, I, T⟩
  replace E : Env w0 w17 base a g1 g2 a9.2 := E.did I T
  clear I T
  rw [show a8.2.doFlush.1 = 20 from e9]
  go_wp2_with fail
  refine (down_is E.I).mono ?_
  rintro e w' ⟨rfl, rfl⟩
  rw [g1_.2.2.2.1]
  go_wp2_with fail
  refine (read_off E.I g1_.2.2.2.1 4).mono ?_
  rintro e w' ⟨rfl, rfl⟩
  go_wp2_with fail
  have b := (Below.refl w17.heap.size w17).alloc (Nat.le_refl _) (.cells #[.bool true] 4)
  have R := heap_alloc_new w17 (.cells #[.bool true] 4)
  replace E := E.old b
  refine (crash_is E.I (some ⟨w17.heap.size, 0, none⟩) 1 1 [true] rfl (-1) 0 (by decide) (flags_one R) (aside_bool R)).mono ?_
  rintro e w18 ⟨rfl, I, T⟩
  replace E : Env w0 w18 base a g1 g2 a10.2 := E.did I T
  clear I T b R
  rw [show (a9.2.doCrash [true] (-1) 0).1 = 0 from e10]
  go_wp2_with fail
  have b := (Below.refl w18.heap.size w18).alloc (Nat.le_refl _) (.cells #[.int .u8 2] 5)
  have R : Row (w18.alloc (.cells #[.int .u8 2] 5)) w18.heap.size [2] := alloc_row w18 [2]
  replace E := E.old b
  refine (says_law E.I g1_.2.2.2.2 4 4 rfl (by rw [n1_.2.2.2]; omega) _ 1 1 [2] rfl (by omega) R.has.told (fun _ x hx => by cases hx; exact R.lt)).mono ?_
  rintro e w19 ⟨rfl, b19⟩
  rw [s10_]
  replace E := E.old b19
  clear b R b19
  go_wp2_with fail
  refine (down_is E.I).mono ?_
  rintro e w' ⟨rfl, rfl⟩
  rw [g1_.2.2.2.2]
  go_wp2_with fail
  refine (write_is E.I w1_.2.2.2.2.1 16 _ 128 128 ones rfl (fun w' t => (row_turned E.R1 t).has.told)).mono ?_
  rintro e w20 ⟨rfl, I, T⟩
  replace E : Env w0 w20 base a g1 g2 (a10.2.doWrite 16 ones).2 := E.did I T
  clear I T
  rw [e11]
  go_wp2_with fail
  refine (write_is E.I w1_.2.2.2.2.2 0 _ 127 127 (ones.drop 1) rfl (fun w' t => by
    have h := (row_turned E.R1 t).has.cut 1 127
    rw [List.take_of_length_le (by decide +kernel)] at h
    exact h.told)).mono ?_
  rintro e w21 ⟨rfl, I, T⟩
  rw [e12] at I ⊢
  replace E : Env w0 w21 base a g1 g2 (a10.2.doWrite 16 ones).2 := E.did I T
  clear I T
  go_wp2_with fail
  refine (arm_is E.I (-1) (by omega)).mono ?_
  rintro e w22 ⟨rfl, I, T⟩
  replace E := E.did I T
  clear I T
  rw [e13]
  go_wp2_with fail
  go_ret
  exact ⟨rfl, E.B⟩
end Go.Proofs.Ythcjhbjhghfhjaa.Dsk
