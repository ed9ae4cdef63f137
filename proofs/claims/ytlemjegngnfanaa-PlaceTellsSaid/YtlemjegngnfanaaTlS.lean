/- The reference's tally: Keep, Back, New. -/
import Derived.Test.YtlemjegngnfanaaTlR
import Derived.Laws.ResultCell
namespace Go.Proofs.Ytlemjegngnfanaa.Tl
open Go.RowKit Go.Proofs.Ytlemjegngnfanaa.Oct Go.Proofs.Ytlemjegngnfanaa.Mv Go.Maps
set_option linter.unusedVariables false

/-- Counts as the reference has them. -/
def wide (l : List UInt16) : List Value := l.map fun c => .int .i64 (c.toNat : Int)
theorem length_wide (l : List UInt16) : (wide l).length = l.length := by simp [wide]
theorem wide_at (l : List UInt16) (i : Nat) (h : i < l.length) : (wide l)[i]? = some (.int .i64 ((l.getD i 0).toNat : Int)) := by simp [wide, h]
theorem wide_set (l : List UInt16) (i : Nat) (c : UInt16) : (wide l).set i (.int .i64 (c.toNat : Int)) = wide (l.set i c) := by simp [wide, List.map_set]
def rval (n b1 c1 b2 c2 : Nat) : Value := .agg #[.slice (some ⟨b1, 0, none⟩) n c1, .slice (some ⟨b2, 0, none⟩) n c2]
/-- The reference's tally, as a value. -/
structure RAt (w : World) (b1 c1 b2 c2 : Nat) (s : St) : Prop where
  now : HasV w b1 0 (wide s.now)
  kept : HasV w b2 0 (wide s.kept)
  ok : s.Ok
section
variable {w w' : World} {b1 c1 b2 c2 : Nat} {s : St}
theorem RAt.lt1 (h : RAt w b1 c1 b2 c2 s) : b1 < w.heap.size := h.now.lt (by rw [length_wide]; exact h.ok.lo)
theorem RAt.lt2 (h : RAt w b1 c1 b2 c2 s) : b2 < w.heap.size := h.kept.lt (by rw [length_wide, h.ok.len]; exact h.ok.lo)
theorem RAt.below (h : RAt w b1 c1 b2 c2 s) (k : Below w.heap.size w w') : RAt w' b1 c1 b2 c2 s := ⟨h.now.below h.lt1 k, h.kept.below h.lt2 k, h.ok⟩
theorem RAt.cnt (h : RAt w b1 c1 b2 c2 s) {i : Nat} (hi : i < s.n) : w.cell? ⟨b1, i, none⟩ = some (.int .i64 ((s.cnt i).toNat : Int)) := by
  have := h.now.cellAt (wide_at s.now i hi)
  rwa [Nat.zero_add] at this
theorem RAt.was (h : RAt w b1 c1 b2 c2 s) {i : Nat} (hi : i < s.n) : w.cell? ⟨b2, i, none⟩ = some (.int .i64 ((s.was i).toNat : Int)) := by
  have hl : i < s.kept.length := by rw [h.ok.len]; exact hi
  have := h.kept.cellAt (wide_at s.kept i hl)
  rwa [Nat.zero_add] at this
/-- Its blocks are none of the tally's own that turn. -/
theorem RAt.apart {a cb mb c : Nat} {s2 : St} (h : RAt w b1 c1 b2 c2 s) (k : At w a cb mb c s2) : b1 ≠ cb ∧ b1 ≠ mb ∧ b2 ≠ cb ∧ b2 ≠ mb := by
  have h0 : 0 < s2.n := k.ok.lo
  have h1 : 0 < s.n := h.ok.lo
  have q1 := h.cnt h1
  have q2 := h.was h1
  have q3 := k.count h0
  obtain ⟨nn, D, ⟨es, clock, hb, _⟩, _⟩ := k.mp
  refine ⟨?_, ?_, ?_, ?_⟩
  · rintro rfl; rw [q1] at q3; simp at q3
  · rintro rfl; simp [World.cell?, hb] at q1
  · rintro rfl; rw [q2] at q3; simp at q3
  · rintro rfl; simp [World.cell?, hb] at q2
theorem RAt.but {p q : Nat} (h : RAt w b1 c1 b2 c2 s) (k : But w w' p q) (h1 : b1 ≠ p ∧ b1 ≠ q ∧ b2 ≠ p ∧ b2 ≠ q) : RAt w' b1 c1 b2 c2 s :=
  ⟨h.now.block (k.block _ h.lt1 h1.1 h1.2.1), h.kept.block (k.block _ h.lt2 h1.2.2.1 h1.2.2.2), h.ok⟩
end

/-! ### Keep, Back -/
theorem results_cell_one {fn : Func} {p : Tmp} {ty : TypeId} (h : fn.results = #[.cell p ty]) (tmps : Array Value) (P : Program) (w : World) :
    (results fn tmps).run P w = ((asAddr (tmps.getD p undef)).run P w).andThen fun a w₁ => (loadVar ty a).run P w₁ := by
  simp only [results, h]
  simp [Sem.run_bind, Result.andThen]
theorem zero_rtally (w : World) : (zeroValue 33).run Try.prog w = .ok (.agg #[.slice none 0 0, .slice none 0 0]) w := by kernel_rfl
set_option maxRecDepth 100000 in
theorem rkeep_any {w : World} {b1 c1 b2 c2 : Nat} {s : St} (h : RAt w b1 c1 b2 c2 s) :
    Calls Try.prog 21 #[rval s.n b1 c1 b2 c2] w fun e w' => e = .returned (rval s.n b1 c1 b1 c1) ∧ RAt w' b1 c1 b1 c1 s.keep ∧ Below w.heap.size w w' := by
  have hz := zero_rtally
  have H := Lib.hid h
  clear h
  have B1 := (Below.refl w.heap.size w).alloc (Nat.le_refl _) (.cells #[.slice (some ⟨b1, 0, none⟩) s.n c1, .slice (some ⟨b2, 0, none⟩) s.n c2] 33)
  have B2 := B1.alloc B1.size (.cells #[.slice (some ⟨b1, 0, none⟩) s.n c1, .slice (some ⟨b1, 0, none⟩) s.n c1] 33)
  have HB := Lib.hid B2
  clear B1 B2
  unfold rval
  go_enter Try.func21, Try.ntmps21
  go_wp2_with fail
  have hR := H.out.below HB.out
  refine bodyPost_ret (v := rval s.n b1 c1 b1 c1) ?_ rfl ⟨rfl, ⟨hR.now, hR.now, hR.ok.keep⟩, HB.out⟩
  rw [results_cell_one rfl]
  unfold rval
  go_simp
/-! ### New -/
theorem made_wides (n : Nat) : madeCells (Value.int .i64 0).cells n = (wide (List.replicate n 0)).toArray := by
  apply Array.ext
  · simp [madeCells, wide]
  · intro i h1 h2
    simp [madeCells, wide, Value.cells, Nat.mod_one]
theorem run_make_ints (w : World) (n : Nat) (hn : n ≤ 4096) :
    (Instr.makeSlice 31 (.int .i64 (n : Int)) (.int .i64 (n : Int))).run Try.prog w = .ok (.slice (some ⟨w.heap.size, 0, none⟩) n n) (w.alloc (.cells (wide (List.replicate n 0)).toArray 3)) := by
  obtain ⟨i0, hi, hz0, hz1, hz2⟩ := info_parts int_info
  have h := run_make (P := Try.prog) w 31 3 i0 (.int .i64 0) Try.underlying31 hi hz0 .i64 .i64 n n (by omega) (by omega) (by rw [hz2]; omega) (by omega)
  rw [hz1, Nat.mul_one, Int.toNat_natCast, made_wides] at h
  exact h
set_option maxRecDepth 100000 in
theorem rnew_yes (n : Nat) (h1 : 1 ≤ n) (h2 : n ≤ 4096) (w : World) :
    Calls Try.prog 10 #[.int .i64 (n : Int)] w fun e w' => ∃ b1 c1 b2 c2, e = .returned (.tuple #[rval n b1 c1 b2 c2, .int .i64 0]) ∧ RAt w' b1 c1 b2 c2 (St.new n) ∧ Below w.heap.size w w' := by
  have hz := zero_rtally
  have hmk := fun w => run_make_ints w n h2
  unfold rval
  go_enter Try.func10, Try.ntmps10
  go_upto_region 3 with (fail)
  have R0 := alloc_rowV w 33 [.slice none 0 0, .slice none 0 0]
  have B0 := (Below.refl w.heap.size w).alloc (Nat.le_refl _) (.cells #[.slice none 0 0, .slice none 0 0] 33)
  generalize w.alloc (.cells #[.slice none 0 0, .slice none 0 0] 33) = w1 at *
  have B1 := (Below.refl w1.heap.size w1).alloc (Nat.le_refl _) (.cells (wide (List.replicate n 0)).toArray 3)
  have B2 := B1.alloc B1.size (.cells (wide (List.replicate n 0)).toArray 3)
  have R1 := alloc_rowV w1 3 (wide (List.replicate n 0))
  have R2 := alloc_rowV (w1.alloc (.cells (wide (List.replicate n 0)).toArray 3)) 3 (wide (List.replicate n 0))
  have hsz : (w1.alloc (.cells (wide (List.replicate n 0)).toArray 3)).heap.size = w1.heap.size + 1 := by simp
  have R1' := R1.below (B := w1.heap.size + 1) (by omega) ((Below.refl _ (w1.alloc (.cells (wide (List.replicate n 0)).toArray 3))).alloc (by omega) (.cells (wide (List.replicate n 0)).toArray 3))
  rw [hsz] at R2
  have R02 := R0.below R0.lt B2
  have d0 := R02.cellAt (i := 0) rfl
  have d1 := R02.cellAt (i := 1) rfl
  have f0 := R02.free 0
  have f1 := R02.free 1
  have HR := Lib.hid R02
  have HB := Lib.hid (B0.trans (B2.mono B0.size))
  have HR1 := Lib.hid R1'
  have HR2 := Lib.hid R2
  have HLT := Lib.hid R0.lt
  clear R0 B0 B1 B2 R1 R2 R1' R02 hsz
  go_region
  · go_wp2_with fail
    generalize (w1.alloc (.cells (wide (List.replicate n 0)).toArray 3)).alloc (.cells (wide (List.replicate n 0)).toArray 3) = w2 at *
    have HR3 := Lib.hid ((HR.out.set 0 (.slice (some ⟨w1.heap.size, 0, none⟩) n n)).set 1 (.slice (some ⟨w1.heap.size + 1, 0, none⟩) n n))
    have hne : w1.heap.size ≠ w.heap.size := fun e => by have := HLT.out; omega
    have hne2 : w1.heap.size + 1 ≠ w.heap.size := fun e => by have := HLT.out; omega
    have hp := (((HR1.out.other (i := 0) (v := .slice (some ⟨w1.heap.size, 0, none⟩) n n) hne).other (i := 1) (v := .slice (some ⟨w1.heap.size + 1, 0, none⟩) n n) hne)).has
    have hq := (((HR2.out.other (i := 0) (v := .slice (some ⟨w1.heap.size, 0, none⟩) n n) hne2).other (i := 1) (v := .slice (some ⟨w1.heap.size + 1, 0, none⟩) n n) hne2)).has
    have HBZ := Lib.hid ((HB.out.setCell (p := ⟨w.heap.size, 0, none⟩) (Nat.le_refl _) (.slice (some ⟨w1.heap.size, 0, none⟩) n n)).setCell (p := ⟨w.heap.size, 1, none⟩) (Nat.le_refl _) (.slice (some ⟨w1.heap.size + 1, 0, none⟩) n n))
    have hlen : (St.new n).n = n := n_new n
    refine bodyPost_ret (v := .tuple #[.agg #[.slice (some ⟨w1.heap.size, 0, none⟩) n n, .slice (some ⟨w1.heap.size + 1, 0, none⟩) n n], .int .i64 0]) ?_ rfl ⟨_, _, _, _, rfl, ⟨hp.still ⟨rfl, rfl, rfl, rfl⟩, hq.still ⟨rfl, rfl, rfl, rfl⟩, .new h1 h2⟩, HBZ.out.drew⟩
    clear hp hq d0 d1 f0 f1 hne hne2
    have d0 := HR3.out.cellAt (i := 0) rfl
    have d1 := HR3.out.cellAt (i := 1) rfl
    rw [results_cell_tmp rfl]
    generalize (w2.setCell ⟨w.heap.size, 0, none⟩ (.slice (some ⟨w1.heap.size, 0, none⟩) n n)).setCell ⟨w.heap.size, 1, none⟩ (.slice (some ⟨w1.heap.size + 1, 0, none⟩) n n) = w3 at *
    go_simp
  · go_wp2_with fail
    generalize (w1.alloc (.cells (wide (List.replicate n 0)).toArray 3)).alloc (.cells (wide (List.replicate n 0)).toArray 3) = w2 at *
    have HR3 := Lib.hid ((HR.out.set 0 (.slice (some ⟨w1.heap.size + 1, 0, none⟩) n n)).set 1 (.slice (some ⟨w1.heap.size, 0, none⟩) n n))
    have hne : w1.heap.size ≠ w.heap.size := fun e => by have := HLT.out; omega
    have hne2 : w1.heap.size + 1 ≠ w.heap.size := fun e => by have := HLT.out; omega
    have hp := (((HR2.out.other (i := 0) (v := .slice (some ⟨w1.heap.size + 1, 0, none⟩) n n) hne2).other (i := 1) (v := .slice (some ⟨w1.heap.size, 0, none⟩) n n) hne2)).has
    have hq := (((HR1.out.other (i := 0) (v := .slice (some ⟨w1.heap.size + 1, 0, none⟩) n n) hne).other (i := 1) (v := .slice (some ⟨w1.heap.size, 0, none⟩) n n) hne)).has
    have HBZ := Lib.hid ((HB.out.setCell (p := ⟨w.heap.size, 0, none⟩) (Nat.le_refl _) (.slice (some ⟨w1.heap.size + 1, 0, none⟩) n n)).setCell (p := ⟨w.heap.size, 1, none⟩) (Nat.le_refl _) (.slice (some ⟨w1.heap.size, 0, none⟩) n n))
    have hlen : (St.new n).n = n := n_new n
    refine bodyPost_ret (v := .tuple #[.agg #[.slice (some ⟨w1.heap.size + 1, 0, none⟩) n n, .slice (some ⟨w1.heap.size, 0, none⟩) n n], .int .i64 0]) ?_ rfl ⟨_, _, _, _, rfl, ⟨hp.still ⟨rfl, rfl, rfl, rfl⟩, hq.still ⟨rfl, rfl, rfl, rfl⟩, .new h1 h2⟩, HBZ.out.drew⟩
    clear hp hq d0 d1 f0 f1 hne hne2
    have d0 := HR3.out.cellAt (i := 0) rfl
    have d1 := HR3.out.cellAt (i := 1) rfl
    rw [results_cell_tmp rfl]
    generalize (w2.setCell ⟨w.heap.size, 0, none⟩ (.slice (some ⟨w1.heap.size + 1, 0, none⟩) n n)).setCell ⟨w.heap.size, 1, none⟩ (.slice (some ⟨w1.heap.size, 0, none⟩) n n) = w3 at *
    go_simp
set_option maxRecDepth 100000 in
theorem rnew_no (n : Int) (h : n < 1 ∨ 4096 < n) (w : World) :
    Calls Try.prog 10 #[.int .i64 n] w fun e w' => e = .returned (.tuple #[.agg #[.slice none 0 0, .slice none 0 0], .int .i64 2]) ∧ Below w.heap.size w w' := by
  have hz := zero_rtally
  have HB := Lib.hid ((Below.refl w.heap.size w).alloc (Nat.le_refl _) (.cells #[.slice none 0 0, .slice none 0 0] 33))
  by_cases h1 : n < 1
  · clear h
    go_enter Try.func10, Try.ntmps10
    go_wp2_with fail
    refine bodyPost_ret (v := .tuple #[.agg #[.slice none 0 0, .slice none 0 0], .int .i64 2]) ?_ rfl ⟨rfl, HB.out⟩
    rw [results_cell_tmp rfl]
    go_simp
  · have h2 : 4096 < n := by omega
    clear h
    go_enter Try.func10, Try.ntmps10
    go_wp2_with fail
    refine bodyPost_ret (v := .tuple #[.agg #[.slice none 0 0, .slice none 0 0], .int .i64 2]) ?_ rfl ⟨rfl, HB.out⟩
    rw [results_cell_tmp rfl]
    go_simp
end Go.Proofs.Ytlemjegngnfanaa.Tl

