/- Contract: contentOf: the numbers of a super, as its body has them. -/
import Derived.Test.YtkhimoclikhlaaaSuB
import Derived.Deep.RegionWith
import Derived.Deep.RegionHeld3
import Derived.Deep.DeepCutAuto
import Derived.Laws.Tables
import Derived.Deep.WholeRow
namespace Go.Proofs.Ytkhimoclikhlaaa.Su
open Go.RowKit Go.Proofs.Ytkhimoclikhlaaa.Oct Go.Proofs.Ytkhimoclikhlaaa.Sf
set_option linter.unusedVariables false

def mcells (s : Sup) : List Value := (List.range 8).map fun i => .int .u64 (nth s (10 + i) : Int)
theorem length_mcells (s : Sup) : (mcells s).length = 8 := by simp [mcells]
theorem row_marks {w : World} {B : Nat} {T : TypeId} {s : Sup} (h : RowV w B T (scells s)) : w.rangeAt B 10 (mcells s) := by
  intro j v hv
  have hj : j < 8 := by have := (List.getElem?_eq_some_iff.1 hv).1; rwa [length_mcells] at this
  have : v = scell (10 + j) (nth s (10 + j)) := by
    rw [scell_wide _ _ (.inr (by omega))]
    simpa [mcells, hj] using hv.symm
  rw [this]
  exact h.cellAt (scells_at s (10 + j) (by omega))
theorem marks_size : (Try.prog.info? 25).map (·.size) = some 8 := by kernel_rfl
theorem content_size : (Try.prog.info? 55).map (·.size) = some 19 := by kernel_rfl
theorem super_size : (Try.prog.info? 27).map (·.size) = some 18 := by kernel_rfl
/-- Of the numbers of a super those that are told when k roots are. -/
def contK (s : Sup) (k j : Nat) : Nat := if 2 + k ≤ j ∧ j < 10 then 0 else cont s j
theorem contK_all (s : Sup) : cvals (contK s 8) = cvals (cont s) := cvals_congr fun j hj => by unfold contK; rw [if_neg (by omega)]
theorem contK_next (s : Sup) (k : Nat) (h : k < 8) : (cvals (contK s k)).set (2 + k) (.int .u64 (nth s (2 + k) : Int)) = cvals (contK s (k + 1)) := by
  rw [cvals_set]
  refine cvals_congr fun j hj => ?_
  unfold upd contK
  by_cases e : j = 2 + k
  · subst e; rw [if_pos rfl, if_neg (by omega)]; unfold cont; rw [if_neg (by omega)]
  · rw [if_neg e]
    by_cases e2 : 2 + k ≤ j ∧ j < 10
    · rw [if_pos e2, if_pos (by omega)]
    · rw [if_neg e2, if_neg (by omega)]
theorem built_content (s : Sup) : Try.prog.built 55 [(0, .int .u64 (nth s 0 : Int)), (1, .int .u64 (nth s 1 : Int)), (3, .agg (mcells s).toArray), (4, .int .u64 (nth s 0 : Int))] = some (cvals (contK s 0)).toArray := by kernel_rfl
theorem zero_content : (cvals fun _ => 0) = [.int .u64 0, .int .u64 0, .int .u64 0, .int .u64 0, .int .u64 0, .int .u64 0, .int .u64 0, .int .u64 0, .int .u64 0, .int .u64 0, .int .u64 0, .int .u64 0, .int .u64 0, .int .u64 0, .int .u64 0, .int .u64 0, .int .u64 0, .int .u64 0, .int .u64 0] := rfl
theorem size_cvals (f : Nat → Nat) : (Try.prog.info? 55).map (·.size) = some (cvals f).toArray.size := by rw [content_size]; simp [length_cvals]
theorem one_cvals (f : Nat → Nat) : (cvals f).toArray.all (·.oneCell') = true := by
  rw [Array.all_eq_true_iff_forall_mem]
  exact fun v hv => cvals_one f v (by simpa using hv)
theorem store_cvals (w : World) (r : Nat) (f : Nat → Nat) (old : List Value) (hl : old.length = 19) (R : RowV w r 55 old) : (storeCells ⟨r, 0, none⟩ (cvals f)).run Try.prog w = .ok () (w.setRow r (cvals f).toArray) := by
  have := run_storeCells_from (P := Try.prog) r 55 (cvals f) 0 old.toArray w R (by simp [length_cvals, hl]) (cvals_one f)
  simpa using this
/-- The root at i, as an index reads it. -/
theorem wpList_build_as {P : Program} {ops : Array Oper} {rest : List Oper} {o : Oper} {a : Act} {w : World} {Q : Exit → Act → World → Prop} (hg : o.guard = none) (t : TypeId) (parts : Array (Nat × Operand)) (ho : o.op = .build t parts)
    (cs : Array Value) (hb : P.built t (parts.map fun (i, x) => (i, a.eval x)).toList = some cs)
    (h : wpList P ops Q rest (a.put o.dst (.agg cs)) w) : wpList P ops Q (o :: rest) a w :=
  wpList_build hg t parts ho (by rw [hb]; rfl) (by rw [hb]; exact h)

set_option maxRecDepth 100000 in
set_option maxHeartbeats 1000000 in
theorem content_any (s : Sup) (hs : Ok s) (w : World) :
    Calls Try.prog 25 #[sval s] w fun e w' => e = .returned (.agg (cvals (cont s)).toArray) ∧ Below w.heap.size w w' := by
  have HR1 := Lib.hid (alloc_rowV w 27 (scells s))
  have b1 := (Below.refl w.heap.size w).alloc (Nat.le_refl _) (.cells (scells s).toArray 27)
  have hs1 : (w.alloc (.cells (scells s).toArray 27)).heap.size = w.heap.size + 1 := by simp
  have HG := Lib.hid (hs.lt 0)
  have hb := hs.small 1 (by decide) (by decide)
  unfold sval
  go_enter Try.func25, Try.ntmps25
  obtain ⟨w1, hw1⟩ : ∃ x, x = w.alloc (.cells (scells s).toArray 27) := ⟨_, rfl⟩
  rw [← hw1] at HR1 b1 hs1
  have R2 := alloc_rowV w1 55 (cvals fun _ => 0)
  change RowV (w1.alloc (.cells #[.int .u64 0, .int .u64 0, .int .u64 0, .int .u64 0, .int .u64 0, .int .u64 0, .int .u64 0, .int .u64 0, .int .u64 0, .int .u64 0, .int .u64 0, .int .u64 0, .int .u64 0, .int .u64 0, .int .u64 0, .int .u64 0, .int .u64 0, .int .u64 0, .int .u64 0] 55)) _ _ _ at R2
  have b2 := (Below.refl w1.heap.size w1).alloc (Nat.le_refl _) (.cells #[.int .u64 0, .int .u64 0, .int .u64 0, .int .u64 0, .int .u64 0, .int .u64 0, .int .u64 0, .int .u64 0, .int .u64 0, .int .u64 0, .int .u64 0, .int .u64 0, .int .u64 0, .int .u64 0, .int .u64 0, .int .u64 0, .int .u64 0, .int .u64 0, .int .u64 0] 55)
  have hs2 : (w1.alloc (.cells #[.int .u64 0, .int .u64 0, .int .u64 0, .int .u64 0, .int .u64 0, .int .u64 0, .int .u64 0, .int .u64 0, .int .u64 0, .int .u64 0, .int .u64 0, .int .u64 0, .int .u64 0, .int .u64 0, .int .u64 0, .int .u64 0, .int .u64 0, .int .u64 0, .int .u64 0] 55)).heap.size = w1.heap.size + 1 := by simp
  have HR2 := Lib.hid (HR1.out.below HR1.out.lt b2)
  have c0 := HR2.out.cellAt (scells_at s 0 (by decide))
  have c1 := HR2.out.cellAt (scells_at s 1 (by decide))
  rw [scell_wide _ _ (.inl rfl)] at c0
  rw [scell_small _ _ (by decide) (by decide)] at c1
  rw [hw1] at c0 c1 HR2
  rw [hw1] at hs1 R2 hs2 b2
  rw [hs1] at R2
  have HQ := Lib.hid R2
  have HB2 := Lib.hid ((show Below w.heap.size w _ from hw1 ▸ b1).trans (b2.mono (by rw [hs1]; omega)))
  clear HR1 b1 hs1 b2 R2 hs2 hw1
  go_upto_region 1 with (fail)
  generalize (w.alloc (.cells (scells s).toArray 27)).alloc (.cells #[.int .u64 0, .int .u64 0, .int .u64 0, .int .u64 0, .int .u64 0, .int .u64 0, .int .u64 0, .int .u64 0, .int .u64 0, .int .u64 0, .int .u64 0, .int .u64 0, .int .u64 0, .int .u64 0, .int .u64 0, .int .u64 0, .int .u64 0, .int .u64 0, .int .u64 0] 55) = w2 at *
  have hst := run_storeCells_new (P := Try.prog) w2 55 #[.int .u64 0, .int .u64 0, .int .u64 0, .int .u64 0, .int .u64 0, .int .u64 0, .int .u64 0, .int .u64 0, .int .u64 0, .int .u64 0, .int .u64 0, .int .u64 0, .int .u64 0, .int .u64 0, .int .u64 0, .int .u64 0, .int .u64 0, .int .u64 0, .int .u64 0] (cvals (contK s 0)).toArray (size_cvals _) (by simp [length_cvals]) (one_cvals _)
  have hlc := length_cvals (contK s 0)
  go_upto_region 2 with (first | (refine wpList_build_as rfl 55 #[(0, .tmp 7), (1, .tmp 10), (3, .tmp 12), (4, .tmp 14)] rfl (cvals (contK s 0)).toArray ?_ ?_; (simp [Act.eval]); exact built_content s) | (refine wpList_load_mid rfl 25 (.tmp 11) rfl w.heap.size 10 rfl (mcells s) _ (row_marks HR2.out) Try.underlying25 rfl (by rw [marks_size, length_mcells]) ?_))
  have b3 := (Below.refl w2.heap.size w2).alloc (Nat.le_refl _) (.cells (cvals (contK s 0)).toArray 55)
  have R3 := alloc_rowV w2 55 (cvals (contK s 0))
  have HQ3 := Lib.hid (HQ.out.below HQ.out.lt b3)
  have HR3 := Lib.hid (HR2.out.below HR2.out.lt b3)
  have HB3 := Lib.hid (HB2.out.trans (b3.mono (HB2.out.size)))
  have HNE := Lib.hid HQ.out.lt
  have HC3 := Lib.hid R3
  clear hst hlc c0 c1 HQ HR2 HB2 b3 R3
  generalize w2.alloc (.cells (cvals (contK s 0)).toArray 55) = w3 at *
  generalize w2.heap.size = q at *
  have hq1 : ¬ (w.heap.size + 1 = q) := by have := HNE.out; omega
  have hq2 : ¬ (w.heap.size = q) := by have := HNE.out; omega
  go_wp2_with (refine wpList_load_mid rfl 24 (.tmp 16) rfl w.heap.size 2 rfl (rcells s) _ (row_roots HR3.out) Try.underlying24 rfl (by rw [roots_size, length_rcells]) ?_)
  go_loopw [18] (fun i wr => ∃ k : Nat, k ≤ 8 ∧ i = .int .i64 (k : Int) ∧ Hid (RowV wr q 55 (cvals (contK s k))) ∧ Hid (RowV wr (w.heap.size + 1) 55 (cvals fun _ => 0)) ∧ Hid (Below w.heap.size w wr)) (fun i _ => 8 - (intOf i).toNat)
  case atStart => exact ⟨0, by omega, rfl, HC3, HQ3, HB3⟩
  case round =>
    obtain ⟨k, hk, rfl, HC, HQ, HB⟩ := hrel
    clear HC3 HQ3 HB3 HR3
    by_cases hlt : k < 8
    · have hix := run_root s wr k hlt
      have hx := hs.small (2 + k) (by omega) (by omega)
      have cc := HC.out.cellAt (cvals_at (contK s k) (2 + k) (by omega))
      have ff := HC.out.free (2 + k)
      have hk0 : (0 : Int) ≤ (k : Int) := by omega
      have hk8 : (k : Int) < 8 := by omega
      have RN := Lib.hid (show RowV (wr.setCell ⟨q, 2 + k, none⟩ (.int .u64 (nth s (2 + k) : Int))) q 55 (cvals (contK s (k + 1))) from by
        rw [← contK_next s k hlt]; exact HC.out.set _ _)
      have QN := Lib.hid (HQ.out.other (i := 2 + k) (v := .int .u64 (nth s (2 + k) : Int)) hq1)
      have BN := Lib.hid (HB.out.setCell (p := ⟨q, 2 + k, none⟩) (show w.heap.size ≤ q by have := HNE.out; omega) (.int .u64 (nth s (2 + k) : Int)))
      clear HC HQ HB
      go_wp2_with fail
      go_roundw
      case rel => exact ⟨k + 1, by omega, by go_num, RN, QN, BN⟩
      case measure => simp [intOf]; omega
    · obtain rfl : k = 8 := by omega
      have hst := store_cvals wr (w.heap.size + 1) (contK s 8) _ (length_cvals _) HQ.out
      have hlc := length_cvals (contK s 8)
      go_wp2_with (refine wpList_load_row rfl 55 (.tmp 3) rfl q rfl _ (cvals (contK s 8)).toArray _ _ HC.out Try.underlying55 rfl (size_cvals _) ?_)
      refine bodyPost_ret (v := .agg (cvals (contK s 8)).toArray) ?_ rfl ⟨by rw [contK_all], HB.out.trans ?_⟩
      · exact results_cell_row rfl _ _ (w.heap.size + 1) 55 _ (0, 0) _ rfl (setRow_heap _ _ _ _ _ _ HQ.out) Try.underlying55 rfl (size_cvals _)
      · exact ⟨rfl, rfl, rfl, by simp, fun k hk => setRow_other _ _ _ _ (by omega)⟩
end Go.Proofs.Ytkhimoclikhlaaa.Su
