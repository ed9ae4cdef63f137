/- Place: its errors; all pages placed. (Written by bin/gen_plwhole.py.) -/
import Derived.Test.YtlemjegngnfanaaPlG
namespace Go.Proofs.Ytlemjegngnfanaa.Pl
open Go.RowKit Go.Proofs.Ytlemjegngnfanaa.Oct Go.Proofs.Ytlemjegngnfanaa.Mv Go.Proofs.Ytlemjegngnfanaa.Tl Go.Proofs.Ytlemjegngnfanaa.Pk Go.Maps
set_option linter.unusedVariables false

theorem results_cell_four {fn : Func} {p u v x : Tmp} {ty : TypeId} (h : fn.results = #[.cell p ty, .tmp u, .tmp v, .tmp x]) (tmps : Array Value) (P : Program) (w : World) :
    (results fn tmps).run P w = ((asAddr (tmps.getD p undef)).run P w).andThen fun a w₁ => ((loadVar ty a).run P w₁).andThen fun y w₂ => .ok (.tuple #[y, tmps.getD u undef, tmps.getD v undef, tmps.getD x undef]) w₂ := by
  simp only [results, h]
  simp [Sem.run_bind, Result.andThen]
theorem sheet_zero (w : World) : (zeroValue 42).run Try.prog w = .ok (.agg #[.slice none 0 0, .slice none 0 0]) w := by kernel_rfl
theorem work_zero (w : World) : (zeroValue 94).run Try.prog w = .ok (.agg #[.pointer none, .pointer none, .slice none 0 0, .slice none 0 0, .slice none 0 0, .slice none 0 0]) w := by kernel_rfl
/-- An error: nothing is told. -/
def noV (k : Int) : Value := .tuple #[.agg #[.slice none 0 0, .slice none 0 0], .slice none 0 0, .slice none 0 0, .int .i64 k]

/-- The sheet that came in, in its variable, and the one that goes out. -/
theorem two_boxes (w : World) (A1 A2 : Option Addr) (n1 n2 c1 c2 : Nat) (W : World) (hW : W = (w.alloc (.cells #[.slice A1 n1 c1, .slice A2 n2 c2] 42)).alloc (.cells #[.slice none 0 0, .slice none 0 0] 42)) :
    RowV W w.heap.size 42 [.slice A1 n1 c1, .slice A2 n2 c2] ∧ RowV W (w.heap.size + 1) 42 [.slice none 0 0, .slice none 0 0] ∧ Below w.heap.size w W := by
  subst hW
  have hz : (w.alloc (.cells #[.slice A1 n1 c1, .slice A2 n2 c2] 42)).heap.size = w.heap.size + 1 := by simp
  have B1 := (Below.refl w.heap.size w).alloc (Nat.le_refl _) (.cells #[.slice A1 n1 c1, .slice A2 n2 c2] 42)
  have R1 := alloc_rowV w 42 [.slice A1 n1 c1, .slice A2 n2 c2]
  have B2 := (Below.refl (w.heap.size + 1) (w.alloc (.cells #[.slice A1 n1 c1, .slice A2 n2 c2] 42))).alloc (by rw [hz]; exact Nat.le_refl _) (.cells #[.slice none 0 0, .slice none 0 0] 42)
  have R2 := alloc_rowV (w.alloc (.cells #[.slice A1 n1 c1, .slice A2 n2 c2] 42)) 42 [.slice none 0 0, .slice none 0 0]
  rw [hz] at R2
  exact ⟨R1.below (by omega) B2, R2, B1.trans (B2.mono (by omega))⟩
theorem zero_sheet_set {w : World} {r : Nat} {T : TypeId} (h : RowV w r T [.slice none 0 0, .slice none 0 0]) : RowV ((w.setCell ⟨r, 0, none⟩ (.slice none 0 0)).setCell ⟨r, 1, none⟩ (.slice none 0 0)) r T [.slice none 0 0, .slice none 0 0] := (h.set 0 (.slice none 0 0)).set 1 (.slice none 0 0)
theorem below_set2 {w w' : World} {B r : Nat} (h : Below B w w') (hB : B ≤ w.heap.size) (hr : B ≤ r) (v u : Value) : Below B w ((w'.setCell ⟨r, 0, none⟩ v).setCell ⟨r, 1, none⟩ u) :=
  h.trans (((ButL.set w' r 0 v).trans (ButL.set _ r 1 u)).below (by simp; exact hr) (Nat.le_trans hB h.size))

set_option maxRecDepth 100000 in
set_option maxHeartbeats 1000000 in
theorem place_nil (v pv : Value) (A1 A2 : Option Addr) (n1 n2 c1 c2 : Nat) (w : World) (h : Nay w v) :
    Calls Try.prog 22 #[v, pv, shv A1 A2 n1 n2 c1 c2] w fun e w' => e = .returned (noV 1) ∧ Below w.heap.size w w' := by
  have hz := sheet_zero
  have HTB := Lib.hid (two_boxes w A1 A2 n1 n2 c1 c2)
  have HN := Lib.hid h
  clear h
  unfold shv
  go_enter Try.func22, Try.ntmps22
  go_wp2_with fail
  generalize hW : (w.alloc (.cells #[.slice A1 n1 c1, .slice A2 n2 c2] 42)).alloc (.cells #[.slice none 0 0, .slice none 0 0] 42) = w1 at *
  obtain ⟨R1, R2, B2⟩ := HTB.out w1 rfl
  refine (blocks_nay v _ (HN.out.below B2)).mono ?_
  rintro e w' ⟨rfl, rfl⟩
  have q0 := R2.cellAt (i := 0) rfl
  have q1 := R2.cellAt (i := 1) rfl
  have f0 := R2.free 0
  have f1 := R2.free 1
  have HB := Lib.hid (below_set2 B2 (Nat.le_refl _) (r := w.heap.size + 1) (by omega) (.slice none 0 0) (.slice none 0 0))
  have R3 := Lib.hid (zero_sheet_set R2)
  clear hW R1 R2 B2 HTB HN hz
  go_wp2_with fail
  have c0 := R3.out.cellAt (i := 0) rfl
  have c1 := R3.out.cellAt (i := 1) rfl
  refine bodyPost_ret (v := noV 1) ?_ rfl ⟨rfl, HB.out⟩
  rw [results_cell_four rfl]
  unfold noV
  go_simp

set_option maxRecDepth 100000 in
set_option maxHeartbeats 2000000 in
theorem place_sheet {w : World} {p ta cb mb c : Nat} {q : Q} (hq : PAt w p ta cb mb c q) {A1 A2 : Option Addr} {c1 c2 : Nat} {l1 l2 : List Int} (h1 : ToldV w A1 (zs l1)) (h2 : ToldV w A2 (zs l2)) (r1 : R64 l1) (r2 : R64 l2) (hno : ¬ RightS q.s l1 l2) :
    Calls Try.prog 22 #[.pointer (some ⟨ta, 0, none⟩), .pointer (some ⟨p, 0, none⟩), shv A1 A2 l1.length l2.length c1 c2] w fun e w' => e = .returned (noV 100) ∧ Below w.heap.size w w' := by
  have hz := sheet_zero
  have HTB := Lib.hid (two_boxes w A1 A2 l1.length l2.length c1 c2)
  have HQ := Lib.hid hq
  have H1 := Lib.hid h1
  have H2 := Lib.hid h2
  have hn1 : (q.s.n : Int) ≠ 0 := by have : 1 ≤ q.s.n := hq.ok.s.lo; omega
  have hn1b : ((q.s.n : Int) == 0) = false := by simpa using hn1
  have hn2 : q.s.n ≤ 4096 := hq.ok.s.hi
  have HX1 := Lib.hid r1
  have HX2 := Lib.hid r2
  clear r1 r2
  clear hq h1 h2 hn1
  unfold shv
  go_enter Try.func22, Try.ntmps22
  go_wp2_with fail
  generalize hW : (w.alloc (.cells #[.slice A1 l1.length c1, .slice A2 l2.length c2] 42)).alloc (.cells #[.slice none 0 0, .slice none 0 0] 42) = w1 at *
  obtain ⟨R1, R2, B2⟩ := HTB.out w1 rfl
  have HR1 := Lib.hid R1
  have HR2 := Lib.hid R2
  have HB := Lib.hid B2
  have HK := Lib.hid (HQ.out.kept B2)
  clear hW R1 R2 B2 HTB
  refine (blocks_at HK.out.tally).mono ?_
  rintro e w' ⟨rfl, rfl⟩
  have q0 := HR1.out.cellAt (i := 0) rfl
  have q1 := HR1.out.cellAt (i := 1) rfl
  go_wp2_with fail
  clear q0 q1
  refine (right_any HK.out.tally (H1.out.below HB.out) (H2.out.below HB.out) HX1.out HX2.out).mono ?_
  rintro e w2 ⟨r, rfl, hr, bz⟩
  have HB2 := Lib.hid (HB.out.trans (bz.mono HB.out.size))
  have HK2 := Lib.hid (HK.out.kept bz)
  have HR3 := Lib.hid (HR1.out.below HR1.out.lt bz)
  have HR4 := Lib.hid (HR2.out.below HR2.out.lt bz)
  obtain rfl : r = false := by cases r with | false => rfl | true => exact absurd (hr.1 rfl) hno
  clear hr bz
  have q0 := HR4.out.cellAt (i := 0) rfl
  have q1 := HR4.out.cellAt (i := 1) rfl
  have f0 := HR4.out.free 0
  have f1 := HR4.out.free 1
  have HB3 := Lib.hid (below_set2 HB2.out (Nat.le_refl _) (r := w.heap.size + 1) (by omega) (.slice none 0 0) (.slice none 0 0))
  have R5 := Lib.hid (zero_sheet_set HR4.out)
  go_wp2_with fail
  clear q0 q1
  have q0 := R5.out.cellAt (i := 0) rfl
  have q1 := R5.out.cellAt (i := 1) rfl
  refine bodyPost_ret (v := noV 100) ?_ rfl ⟨rfl, HB3.out⟩
  rw [results_cell_four rfl]
  unfold noV
  go_simp

set_option maxRecDepth 100000 in
set_option maxHeartbeats 2000000 in
theorem place_space {w : World} {p ta cb mb c : Nat} {q : Q} (hq : PAt w p ta cb mb c q) {A1 A2 : Option Addr} {c1 c2 : Nat} {l1 l2 : List Int} (h1 : ToldV w A1 (zs l1)) (h2 : ToldV w A2 (zs l2)) (r1 : R64 l1) (r2 : R64 l2) (hyes : RightS q.s l1 l2) (hroom : q.room < need q.s.n) :
    Calls Try.prog 22 #[.pointer (some ⟨ta, 0, none⟩), .pointer (some ⟨p, 0, none⟩), shv A1 A2 l1.length l2.length c1 c2] w fun e w' => e = .returned (noV 90) ∧ Below w.heap.size w w' := by
  have hz := sheet_zero
  have HTB := Lib.hid (two_boxes w A1 A2 l1.length l2.length c1 c2)
  have HQ := Lib.hid hq
  have H1 := Lib.hid h1
  have H2 := Lib.hid h2
  have hn1 : (q.s.n : Int) ≠ 0 := by have : 1 ≤ q.s.n := hq.ok.s.lo; omega
  have hn1b : ((q.s.n : Int) == 0) = false := by simpa using hn1
  have hn2 : q.s.n ≤ 4096 := hq.ok.s.hi
  have HX1 := Lib.hid r1
  have HX2 := Lib.hid r2
  clear r1 r2
  clear hq h1 h2 hn1
  unfold shv
  go_enter Try.func22, Try.ntmps22
  go_wp2_with fail
  generalize hW : (w.alloc (.cells #[.slice A1 l1.length c1, .slice A2 l2.length c2] 42)).alloc (.cells #[.slice none 0 0, .slice none 0 0] 42) = w1 at *
  obtain ⟨R1, R2, B2⟩ := HTB.out w1 rfl
  have HR1 := Lib.hid R1
  have HR2 := Lib.hid R2
  have HB := Lib.hid B2
  have HK := Lib.hid (HQ.out.kept B2)
  clear hW R1 R2 B2 HTB
  refine (blocks_at HK.out.tally).mono ?_
  rintro e w' ⟨rfl, rfl⟩
  have q0 := HR1.out.cellAt (i := 0) rfl
  have q1 := HR1.out.cellAt (i := 1) rfl
  go_wp2_with fail
  clear q0 q1
  refine (right_any HK.out.tally (H1.out.below HB.out) (H2.out.below HB.out) HX1.out HX2.out).mono ?_
  rintro e w2 ⟨r, rfl, hr, bz⟩
  have HB2 := Lib.hid (HB.out.trans (bz.mono HB.out.size))
  have HK2 := Lib.hid (HK.out.kept bz)
  have HR3 := Lib.hid (HR1.out.below HR1.out.lt bz)
  have HR4 := Lib.hid (HR2.out.below HR2.out.lt bz)
  obtain rfl : r = true := hr.2 hyes
  clear hr bz
  go_wp2_with fail
  refine (room_at HK2.out).mono ?_
  rintro e w' ⟨rfl, rfl⟩
  go_wp2_with fail
  refine (blocks_at HK2.out.tally).mono ?_
  rintro e w' ⟨rfl, rfl⟩
  go_wp2_with fail
  refine (need_eq q.s.n (by omega) _).mono ?_
  rintro e w' ⟨rfl, rfl⟩
  have hlt : (q.room : Int) < (need q.s.n : Int) := by omega
  have q0 := HR4.out.cellAt (i := 0) rfl
  have q1 := HR4.out.cellAt (i := 1) rfl
  have f0 := HR4.out.free 0
  have f1 := HR4.out.free 1
  have HB3 := Lib.hid (below_set2 HB2.out (Nat.le_refl _) (r := w.heap.size + 1) (by omega) (.slice none 0 0) (.slice none 0 0))
  have R5 := Lib.hid (zero_sheet_set HR4.out)
  go_wp2_with fail
  clear q0 q1
  have q0 := R5.out.cellAt (i := 0) rfl
  have q1 := R5.out.cellAt (i := 1) rfl
  refine bodyPost_ret (v := noV 90) ?_ rfl ⟨rfl, HB3.out⟩
  rw [results_cell_four rfl]
  unfold noV
  go_simp
end Go.Proofs.Ytlemjegngnfanaa.Pl
