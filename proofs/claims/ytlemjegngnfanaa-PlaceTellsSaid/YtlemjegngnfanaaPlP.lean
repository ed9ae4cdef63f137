/- A sheet of pages that stand nowhere. (Written by bin/gen_plempty.py.) -/
import Derived.Test.YtlemjegngnfanaaPlS
namespace Go.Proofs.Ytlemjegngnfanaa.Pl
open Go.RowKit Go.Proofs.Ytlemjegngnfanaa.Oct Go.Proofs.Ytlemjegngnfanaa.Mv Go.Proofs.Ytlemjegngnfanaa.Tl Go.Proofs.Ytlemjegngnfanaa.Pk Go.Maps
set_option linter.unusedVariables false

theorem wrap_i64 {z : Int} (h1 : -9223372036854775808 ≤ z) (h2 : z ≤ 9223372036854775807) : IntKind.i64.wrap z = z := by rw [IntKind.wrap_i64]; omega
theorem wide_zeros (n : Nat) : wide (List.replicate n 0) = ints (List.replicate n 0) := by
  simp [wide, ints]
theorem run_zeros (w : World) (n : Nat) (hn : n ≤ 4096) :
    (Instr.makeSlice 31 (.int .i64 (n : Int)) (.int .i64 (n : Int))).run Try.prog w = .ok (.slice (some ⟨w.heap.size, 0, none⟩) n n) (w.alloc (.cells (ints (List.replicate n 0)).toArray 3)) := by
  have := run_make_ints w n hn
  rw [wide_zeros] at this
  exact this
def zeros (n : Nat) : List Nat := List.replicate n 0
set_option maxRecDepth 100000 in
set_option maxHeartbeats 2000000 in
theorem empty_any (n : Nat) (hn : n ≤ 4096) (w : World) :
    Calls Try.prog 14 #[.int .i64 (n : Int)] w fun e w' => ∃ g1 g3, e = .returned (.agg #[.slice (some ⟨g1, 0, none⟩) (pg n) (pg n), .slice (some ⟨g3, 0, none⟩) (pg (pg n)) (pg (pg n))]) ∧ RowV w' g1 3 (ints (zeros (pg n))) ∧ RowV w' g3 3 (ints (zeros (pg (pg n)))) ∧ w.heap.size ≤ g1 ∧ w.heap.size ≤ g3 ∧ Below w.heap.size w w' := by
  have ht : ((n : Int) + 60).tdiv 61 = (pg n : Int) := by rw [Int.tdiv_eq_ediv_of_nonneg (by omega)]; unfold pg; omega
  have ht2 : ((pg n : Int) + 60).tdiv 61 = (pg (pg n) : Int) := by rw [Int.tdiv_eq_ediv_of_nonneg (by omega)]; unfold pg; omega
  have hq1 : ((n : Int) + 60) / 61 = (pg n : Int) := by unfold pg; omega
  have hq2 : ((pg n : Int) + 60) / 61 = (pg (pg n) : Int) := by unfold pg; omega
  have hp : pg n ≤ 68 := pg_le hn
  have hpp : pg (pg n) ≤ 68 := pg_le (by omega)
  have hw3 : IntKind.i64.wrap ((pg n : Int) + 60) = (pg n : Int) + 60 := wrap_i64 (by omega) (by omega)
  have hw4 : IntKind.i64.wrap (pg (pg n) : Int) = (pg (pg n) : Int) := wrap_i64 (by omega) (by omega)
  have hz := sheet_zero
  have B1 := (Below.refl w.heap.size w).alloc (Nat.le_refl _) (.cells #[.slice none 0 0, .slice none 0 0] 42)
  have HR := Lib.hid (alloc_rowV w 42 [.slice none 0 0, .slice none 0 0])
  have HB := Lib.hid B1
  clear B1
  go_enter Try.func14, Try.ntmps14
  go_upto_region 2 with (fail)
  generalize w.alloc (.cells #[.slice none 0 0, .slice none 0 0] 42) = w1 at *
  obtain ⟨r, hr⟩ : ∃ r, r = w.heap.size := ⟨_, rfl⟩
  rw [← hr] at HR ⊢
  have HRR := Lib.hid hr
  clear hr
  refine Inv2.wp_region_inv (fun b a wy => ∃ z7 z8 z9 z10 z11 z12 z13, a = ⟨#[.int .i64 (n : Int), undef, .pointer (some ⟨r, 0, none⟩), .int .i64 (pg n : Int), .int .i64 (n : Int), .int .i64 ((n : Int) + 60), .int .i64 (pg n : Int), z7, z8, z9, z10, z11, z12, z13], []⟩ ∧ Hid ((b 0 = true → z7 = .int .i64 (pg n : Int)) ∧ (b 2 = true → z9 = .int .i64 (pg n : Int)) ∧ (b 3 = true → z10 = .int .i64 ((pg n : Int) + 60)) ∧ (b 4 = true → z11 = .int .i64 (pg (pg n) : Int))) ∧ Hid (Below w.heap.size w wy) ∧ Hid (∃ g1 g3, (b 1 = true → z8 = .slice (some ⟨g1, 0, none⟩) (pg n) (pg n) ∧ w.heap.size ≤ g1 ∧ RowV wy g1 3 (ints (zeros (pg n)))) ∧ (b 5 = true → z12 = .slice (some ⟨g3, 0, none⟩) (pg (pg n)) (pg (pg n)) ∧ w.heap.size ≤ g3 ∧ RowV wy g3 3 (ints (zeros (pg (pg n))))) ∧ (b 6 = true → z13 = .agg #[.slice (some ⟨g1, 0, none⟩) (pg n) (pg n), .slice (some ⟨g3, 0, none⟩) (pg (pg n)) (pg (pg n))] ∧ b 1 = true ∧ b 5 = true) ∧ (b 7 = false → RowV wy r 42 [.slice none 0 0, .slice none 0 0]) ∧ (b 7 = true → b 6 = true ∧ RowV wy r 42 [.slice (some ⟨g1, 0, none⟩) (pg n) (pg n), .slice (some ⟨g3, 0, none⟩) (pg (pg n)) (pg (pg n))]))) (by kernel_rfl) (by kernel_rfl) ?startE1 ?stepsE1 ?doneE1
  case startE1 =>
    intro b hb
    refine ⟨undef, undef, undef, undef, undef, undef, undef, rfl, Lib.hid ⟨?_, ?_, ?_, ?_⟩, Lib.hid (HB.out.trans <| (show Still w1 w1.drew from ⟨rfl, rfl, rfl, rfl⟩).below _), Lib.hid (⟨0, 0, (fun e => by rw [hb _ (by decide)] at e; cases e), (fun e => by rw [hb _ (by decide)] at e; cases e), (fun e => by rw [hb _ (by decide)] at e; cases e), fun _ => HR.out, (fun e => by rw [hb _ (by decide)] at e; cases e)⟩)⟩
    all_goals (intro e; first | rfl | (rw [hb _ (by decide)] at e; cases e))
  case stepsE1 =>
    refine ⟨?_, ?_, ?_, ?_, ?_, ?_, ?_, ?_, trivial⟩
    · rintro b a wy hb hd ⟨z7, z8, z9, z10, z11, z12, z13, rfl, HV, HW, HX⟩ K hK
      obtain ⟨h0, h2, h3, h4⟩ := HV.out
      clear hd
      go_simp
      exact hK _ _ ⟨_, _, _, _, _, _, _, rfl, Lib.hid ⟨fun _ => rfl, h2, h3, h4⟩, HW, HX⟩
    · rintro b a wy hb hd ⟨z7, z8, z9, z10, z11, z12, z13, rfl, HV, HW, HX⟩ K hK
      obtain ⟨h0, h2, h3, h4⟩ := HV.out
      simp [Region.binds] at hd
      obtain rfl := h0 (by simp [hd])
      clear hd
      obtain ⟨g1, g3, x1, x2, x3, x4, x5⟩ := HX.out
      have hmk := run_zeros wy (pg n) (by omega)
      go_simp
      have B2 := (Below.refl wy.heap.size wy).alloc (Nat.le_refl _) (.cells (ints (List.replicate (pg n) 0)).toArray 3)
      have R2 := alloc_rowV wy 3 (ints (List.replicate (pg n) 0))
      exact hK _ _ ⟨_, _, _, _, _, _, _, rfl, Lib.hid ⟨h0, h2, h3, h4⟩, Lib.hid (HW.out.trans (B2.mono HW.out.size)), Lib.hid ⟨wy.heap.size, g3, fun _ => ⟨rfl, HW.out.size, R2⟩, fun e => ⟨(x2 e).1, (x2 e).2.1, (x2 e).2.2.below (x2 e).2.2.lt B2⟩, fun e => absurd (x3 e).2.1 (by rw [hb]; decide), fun e => (x4 e).below (x4 e).lt B2, fun e => absurd (x3 (x5 e).1).2.1 (by rw [hb]; decide)⟩⟩
    · rintro b a wy hb hd ⟨z7, z8, z9, z10, z11, z12, z13, rfl, HV, HW, HX⟩ K hK
      obtain ⟨h0, h2, h3, h4⟩ := HV.out
      clear hd
      go_simp
      exact hK _ _ ⟨_, _, _, _, _, _, _, rfl, Lib.hid ⟨h0, fun _ => rfl, h3, h4⟩, HW, HX⟩
    · rintro b a wy hb hd ⟨z7, z8, z9, z10, z11, z12, z13, rfl, HV, HW, HX⟩ K hK
      obtain ⟨h0, h2, h3, h4⟩ := HV.out
      simp [Region.binds] at hd
      obtain rfl := h2 (by simp [hd])
      clear hd
      go_simp
      exact hK _ _ ⟨_, _, _, _, _, _, _, rfl, Lib.hid ⟨h0, h2, fun _ => rfl, h4⟩, HW, HX⟩
    · rintro b a wy hb hd ⟨z7, z8, z9, z10, z11, z12, z13, rfl, HV, HW, HX⟩ K hK
      obtain ⟨h0, h2, h3, h4⟩ := HV.out
      simp [Region.binds] at hd
      obtain rfl := h3 (by simp [hd])
      clear hd
      go_simp
      exact hK _ _ ⟨_, _, _, _, _, _, _, rfl, Lib.hid ⟨h0, h2, h3, fun _ => rfl⟩, HW, HX⟩
    · rintro b a wy hb hd ⟨z7, z8, z9, z10, z11, z12, z13, rfl, HV, HW, HX⟩ K hK
      obtain ⟨h0, h2, h3, h4⟩ := HV.out
      simp [Region.binds] at hd
      obtain rfl := h4 (by simp [hd])
      clear hd
      obtain ⟨g1, g3, x1, x2, x3, x4, x5⟩ := HX.out
      have hmk := run_zeros wy (pg (pg n)) (by omega)
      go_simp
      have B2 := (Below.refl wy.heap.size wy).alloc (Nat.le_refl _) (.cells (ints (List.replicate (pg (pg n)) 0)).toArray 3)
      have R2 := alloc_rowV wy 3 (ints (List.replicate (pg (pg n)) 0))
      exact hK _ _ ⟨_, _, _, _, _, _, _, rfl, Lib.hid ⟨h0, h2, h3, h4⟩, Lib.hid (HW.out.trans (B2.mono HW.out.size)), Lib.hid ⟨g1, wy.heap.size, fun e => ⟨(x1 e).1, (x1 e).2.1, (x1 e).2.2.below (x1 e).2.2.lt B2⟩, fun _ => ⟨rfl, HW.out.size, R2⟩, fun e => absurd (x3 e).2.2 (by rw [hb]; decide), fun e => (x4 e).below (x4 e).lt B2, fun e => absurd (x3 (x5 e).1).2.2 (by rw [hb]; decide)⟩⟩
    · rintro b a wy hb hd ⟨z7, z8, z9, z10, z11, z12, z13, rfl, HV, HW, HX⟩ K hK
      obtain ⟨h0, h2, h3, h4⟩ := HV.out
      simp [Region.binds] at hd
      have dd1 : b 1 = true := by simp [hd]
      have dd5 : b 5 = true := by simp [hd]
      clear hd
      obtain ⟨g1, g3, x1, x2, x3, x4, x5⟩ := HX.out
      obtain ⟨rfl, y1, y2⟩ := x1 dd1
      obtain ⟨rfl, y3, y4⟩ := x2 dd5
      go_simp
      exact hK _ _ ⟨_, _, _, _, _, _, _, rfl, Lib.hid ⟨h0, h2, h3, h4⟩, HW, Lib.hid ⟨g1, g3, fun _ => ⟨rfl, y1, y2⟩, fun _ => ⟨rfl, y3, y4⟩, fun _ => ⟨rfl, dd1, dd5⟩, x4, fun e => absurd (x5 e).1 (by rw [hb]; decide)⟩⟩
    · rintro b a wy hb hd ⟨z7, z8, z9, z10, z11, z12, z13, rfl, HV, HW, HX⟩ K hK
      obtain ⟨h0, h2, h3, h4⟩ := HV.out
      simp [Region.binds] at hd
      have dd6 : b 6 = true := by simp [hd]
      clear hd
      obtain ⟨g1, g3, x1, x2, x3, x4, x5⟩ := HX.out
      obtain ⟨rfl, d1, d5⟩ := x3 dd6
      obtain ⟨rfl, y1, y2⟩ := x1 d1
      obtain ⟨rfl, y3, y4⟩ := x2 d5
      have hr := x4 hb
      have q0 := hr.cellAt (i := 0) rfl
      have q1 := hr.cellAt (i := 1) rfl
      have f0 := hr.free 0
      have f1 := hr.free 1
      have HA3 := Lib.hid ((hr.set 0 (.slice (some ⟨g1, 0, none⟩) (pg n) (pg n))).set 1 (.slice (some ⟨g3, 0, none⟩) (pg (pg n)) (pg (pg n))))
      have HU := Lib.hid ((ButL.set wy r 0 (.slice (some ⟨g1, 0, none⟩) (pg n) (pg n))).trans (ButL.set _ r 1 (.slice (some ⟨g3, 0, none⟩) (pg (pg n)) (pg (pg n)))))
      have HY2 := Lib.hid (y2.block (HU.out.block _ y2.lt (by simp; exact row_ne y2 hr (by decide))))
      have HY4 := Lib.hid (y4.block (HU.out.block _ y4.lt (by simp; exact row_ne y4 hr (by decide))))
      have HD := Lib.hid (And.intro d1 (And.intro d5 dd6))
      have HYY := Lib.hid (And.intro y1 y3)
      have hrl : w.heap.size ≤ r := by rw [HRR.out]; exact Nat.le_refl _
      clear x1 x2 x3 x4 x5 y1 y2 y3 y4 hr d1 d5 dd6 HX
      go_simp
      have HW6 := Lib.hid (HW.out.trans (HU.out.below (B := w.heap.size) (by simp; exact hrl) HW.out.size))
      exact hK _ _ ⟨_, _, _, _, _, _, _, rfl, Lib.hid ⟨h0, h2, h3, h4⟩, HW6, Lib.hid ⟨g1, g3, fun _ => ⟨rfl, HYY.out.1, HY2.out⟩, fun _ => ⟨rfl, HYY.out.2, HY4.out⟩, fun _ => ⟨rfl, HD.out.1, HD.out.2.1⟩, fun e => (by cases e), fun _ => ⟨HD.out.2.2, HA3.out⟩⟩⟩
  case doneE1 =>
    rintro b a wy hb ⟨z7, z8, z9, z10, z11, z12, z13, rfl, HV, HW, HX⟩
    obtain ⟨h0, h2, h3, h4⟩ := HV.out
    obtain rfl := h0 (hb 0)
    obtain rfl := h2 (hb 2)
    obtain rfl := h3 (hb 3)
    obtain rfl := h4 (hb 4)
    clear HV h0 h2 h3 h4
    obtain ⟨g1, g3, x1, x2, x3, x4, x5⟩ := HX.out
    obtain ⟨rfl, _, _⟩ := x3 (hb 6)
    obtain ⟨rfl, y1, y2⟩ := x1 (hb 1)
    obtain ⟨rfl, y3, y4⟩ := x2 (hb 5)
    have hr := (x5 (hb 7)).2
    have q0 := hr.cellAt (i := 0) rfl
    have q1 := hr.cellAt (i := 1) rfl
    have HY := Lib.hid (And.intro y2 (And.intro y4 (And.intro y1 y3)))
    clear x1 x2 x3 x4 x5 y1 y2 y3 y4 hr hb HX
    go_wp2_with fail
    refine bodyPost_ret (v := .agg #[.slice (some ⟨g1, 0, none⟩) (pg n) (pg n), .slice (some ⟨g3, 0, none⟩) (pg (pg n)) (pg (pg n))]) ?_ rfl ⟨g1, g3, rfl, HY.out.1, HY.out.2.1, HY.out.2.2.1, HY.out.2.2.2, HW.out⟩
    rw [results_cell_one rfl]
    go_simp
end Go.Proofs.Ytlemjegngnfanaa.Pl
