/- Contract: layoutOf: where each number of a shelf stands in a body. -/
import Derived.Test.YtamibckpkhpmfaaSfH
import Derived.Deep.RegionWith
import Derived.Deep.RegionHeld3
import Derived.Deep.DeepCutAuto
import Derived.Laws.Tables
import Derived.Deep.WholeRow
namespace Go.Proofs.Ytamibckpkhpmfaa.Sf
open Go.RowKit Go.Proofs.Ytamibckpkhpmfaa.Oct
set_option linter.unusedVariables false

/-- Where the j-th of a layout's places stands. -/
def place (g j : Nat) : Value :=
  if j = 0 then .slice (some ⟨g, 0, none⟩) 1 1 else if j = 1 then .slice (some ⟨g, 1, none⟩) 1 1 else if j = 2 then .slice (some ⟨g, 2, none⟩) 4 4
  else if j % 2 = 1 then .slice (some ⟨g, 6 + 12 * ((j - 3) / 2), none⟩) 8 8 else .slice (some ⟨g, 14 + 12 * ((j - 3) / 2), none⟩) 4 4
/-- A layout, of whose entries k are told. -/
def laid (g k : Nat) : List Value := (List.range 21).map fun j => if j < 3 + 2 * k then place g j else .slice none 0 0
theorem length_laid (g k : Nat) : (laid g k).length = 21 := by simp [laid]
theorem laid_at (g k j : Nat) (h : j < 21) : (laid g k)[j]? = some (if j < 3 + 2 * k then place g j else .slice none 0 0) := by
  simp [laid, h]
theorem laid_set (g k : Nat) (h : k < 9) : ((laid g k).set (3 + 2 * k) (.slice (some ⟨g, 6 + 12 * k, none⟩) 8 8)).set (3 + 2 * k + 1) (.slice (some ⟨g, 14 + 12 * k, none⟩) 4 4) = laid g (k + 1) := by
  apply List.ext_getElem
  · simp [laid]
  · intro i h1 h2
    simp only [List.length_set, length_laid] at h1
    rw [List.getElem_set, List.getElem_set]
    simp only [laid, List.getElem_map, List.getElem_range]
    by_cases e1 : 3 + 2 * k + 1 = i
    · subst e1
      rw [if_pos rfl, if_pos (by omega)]
      unfold place
      rw [if_neg (by omega), if_neg (by omega), if_neg (by omega), if_neg (by omega), show (3 + 2 * k + 1 - 3) / 2 = k by omega]
    · rw [if_neg e1]
      by_cases e2 : 3 + 2 * k = i
      · subst e2
        rw [if_pos rfl, if_pos (by omega)]
        unfold place
        rw [if_neg (by omega), if_neg (by omega), if_neg (by omega), if_pos (by omega), show (3 + 2 * k - 3) / 2 = k by omega]
      · rw [if_neg e2]
        by_cases e3 : i < 3 + 2 * k
        · rw [if_pos e3, if_pos (by omega)]
        · rw [if_neg e3, if_neg (by omega)]

/-- Nothing that was there has turned but block p. -/
structure Grew (w w' : World) (p : Nat) : Prop where
  os : w'.os = w.os
  tape : w'.tape = w.tape
  output : w'.output = w.output
  size : w.heap.size ≤ w'.heap.size
  block : ∀ k, k < w.heap.size → k ≠ p → w'.heap[k]? = w.heap[k]?
theorem But.grew {w w' : World} {p : Nat} (h : But w w' p) : Grew w w' p := ⟨h.os, h.tape, h.output, by rw [h.size]; exact Nat.le_refl _, fun k _ hk => h.block k hk⟩
theorem below_grew {w w' : World} (h : Below w.heap.size w w') (p : Nat) : Grew w w' p := ⟨h.os, h.tape, h.output, h.size, fun k hk _ => h.block k hk⟩
theorem Grew.trans {w w' w'' : World} {p : Nat} (h : Grew w w' p) (k : Grew w' w'' p) : Grew w w'' p := ⟨k.os.trans h.os, k.tape.trans h.tape, k.output.trans h.output, Nat.le_trans h.size k.size, fun i hi hp => (k.block i (Nat.lt_of_lt_of_le hi h.size) hp).trans (h.block i hi hp)⟩
theorem Grew.below {w w' : World} {p B : Nat} (h : Grew w w' p) (hp : B ≤ p) (hB : B ≤ w.heap.size) : Below B w w' := ⟨h.os, h.tape, h.output, h.size, fun k hk => h.block k (by omega) (by omega)⟩
theorem Grew.still {w w' w'' : World} {p : Nat} (h : Grew w w' p) (S : Still w' w'') : Grew w w'' p := h.trans (below_grew (S.below _) p)
theorem Grew.row {w w' : World} {p q : Nat} {T : TypeId} {vs : List Value} (h : Grew w w' p) (R : RowV w q T vs) (hq : q ≠ p) : RowV w' q T vs := R.block (h.block q R.lt hq)
theorem Places.block {w w' : World} {p g k : Nat} (h : Places w p g k) (e : w'.heap[p]? = w.heap[p]?) : Places w' p g k := ⟨h.row.block e, h.le⟩

theorem layout_size : (Try.prog.info? 49).map (·.size) = some 21 := by kernel_rfl
theorem wpList_build_as {P : Program} {ops : Array Oper} {rest : List Oper} {o : Oper} {a : Act} {w : World} {Q : Exit → Act → World → Prop} (hg : o.guard = none) (t : TypeId) (parts : Array (Nat × Operand)) (ho : o.op = .build t parts)
    (cs : Array Value) (hb : P.built t (parts.map fun (i, x) => (i, a.eval x)).toList = some cs)
    (h : wpList P ops Q rest (a.put o.dst (.agg cs)) w) : wpList P ops Q (o :: rest) a w :=
  wpList_build hg t parts ho (by rw [hb]; rfl) (by rw [hb]; exact h)
theorem built_laid (g : Nat) : Try.prog.built 49 [(0, .slice (some ⟨g, 0, none⟩) 1 1), (1, .slice (some ⟨g, 1, none⟩) 1 1), (2, .slice (some ⟨g, 2, none⟩) 4 4)] = some (laid g 0).toArray := by kernel_rfl
theorem laid_one (g k : Nat) : ∀ v ∈ laid g k, v.oneCell' = true := by
  intro v hv
  simp only [laid, List.mem_map] at hv
  obtain ⟨j, _, rfl⟩ := hv
  unfold place
  repeat' split
  all_goals rfl
theorem one_laid (g k : Nat) : (laid g k).toArray.all (·.oneCell') = true := by
  rw [Array.all_eq_true_iff_forall_mem]
  exact fun v hv => laid_one g k v (by simpa using hv)
theorem Grew.set {w w' : World} {p q : Nat} (h : Grew w w' p) (hq : w.heap.size ≤ q) (i : Nat) (v : Value) : Grew w (w'.setCell ⟨q, i, none⟩ v) p := ⟨h.os, h.tape, h.output, by simp [h.size], fun k hk hp => (heap_setCell_other _ _ _ _ (show k ≠ q by omega)).trans (h.block k hk hp)⟩
theorem Grew.setRow {w w' : World} {p q : Nat} (h : Grew w w' p) (hq : w.heap.size ≤ q) (cs : Array Value) : Grew w (w'.setRow q cs) p := ⟨h.os, h.tape, h.output, by simp [h.size], fun k hk hp => (setRow_other _ _ _ _ (by omega)).trans (h.block k hk hp)⟩
theorem store_laid (w : World) (r g k : Nat) (old : List Value) (hl : old.length = 21) (R : RowV w r 49 old) : (storeCells ⟨r, 0, none⟩ (laid g k)).run Try.prog w = .ok () (w.setRow r (laid g k).toArray) := by
  have := run_storeCells_from (P := Try.prog) r 49 (laid g k) 0 old.toArray w R (by simp [length_laid, hl]) (laid_one g k)
  simpa using this
theorem size_laid (g k : Nat) : (Try.prog.info? 49).map (·.size) = some (laid g k).toArray.size := by rw [layout_size]; simp [length_laid]

set_option maxRecDepth 100000 in
set_option maxHeartbeats 1000000 in
theorem layout_any {w : World} {p g : Nat} (h : Places w p g 0) :
    Calls Try.prog 19 #[.func (.func 20) #[.pointer (some ⟨p, 0, none⟩)] #[]] w fun e w' => e = .returned (.agg (laid g 9).toArray) ∧ Grew w w' p ∧ Places w' p g 114 := by
  have b1 := (Below.refl w.heap.size w).alloc (Nat.le_refl _) (.cells #[.slice none 0 0, .slice none 0 0, .slice none 0 0, .slice none 0 0, .slice none 0 0, .slice none 0 0, .slice none 0 0, .slice none 0 0, .slice none 0 0, .slice none 0 0, .slice none 0 0, .slice none 0 0, .slice none 0 0, .slice none 0 0, .slice none 0 0, .slice none 0 0, .slice none 0 0, .slice none 0 0, .slice none 0 0, .slice none 0 0, .slice none 0 0] 49)
  have R1 := alloc_rowV w 49 [.slice none 0 0, .slice none 0 0, .slice none 0 0, .slice none 0 0, .slice none 0 0, .slice none 0 0, .slice none 0 0, .slice none 0 0, .slice none 0 0, .slice none 0 0, .slice none 0 0, .slice none 0 0, .slice none 0 0, .slice none 0 0, .slice none 0 0, .slice none 0 0, .slice none 0 0, .slice none 0 0, .slice none 0 0, .slice none 0 0, .slice none 0 0]
  change RowV (w.alloc (.cells #[.slice none 0 0, .slice none 0 0, .slice none 0 0, .slice none 0 0, .slice none 0 0, .slice none 0 0, .slice none 0 0, .slice none 0 0, .slice none 0 0, .slice none 0 0, .slice none 0 0, .slice none 0 0, .slice none 0 0, .slice none 0 0, .slice none 0 0, .slice none 0 0, .slice none 0 0, .slice none 0 0, .slice none 0 0, .slice none 0 0, .slice none 0 0] 49)) _ _ _ at R1
  have HP1 := Lib.hid (h.block (b1.block p h.row.lt))
  have HPL := Lib.hid h.row.lt
  go_enter Try.func19, Try.ntmps19
  go_wp2_with fail
  have hs1 : (w.alloc (.cells #[.slice none 0 0, .slice none 0 0, .slice none 0 0, .slice none 0 0, .slice none 0 0, .slice none 0 0, .slice none 0 0, .slice none 0 0, .slice none 0 0, .slice none 0 0, .slice none 0 0, .slice none 0 0, .slice none 0 0, .slice none 0 0, .slice none 0 0, .slice none 0 0, .slice none 0 0, .slice none 0 0, .slice none 0 0, .slice none 0 0, .slice none 0 0] 49)).heap.size = w.heap.size + 1 := by simp
  generalize w.alloc (.cells #[.slice none 0 0, .slice none 0 0, .slice none 0 0, .slice none 0 0, .slice none 0 0, .slice none 0 0, .slice none 0 0, .slice none 0 0, .slice none 0 0, .slice none 0 0, .slice none 0 0, .slice none 0 0, .slice none 0 0, .slice none 0 0, .slice none 0 0, .slice none 0 0, .slice none 0 0, .slice none 0 0, .slice none 0 0, .slice none 0 0, .slice none 0 0] 49) = w1 at *
  have HS1 := Lib.hid hs1
  have HG1 := Lib.hid (below_grew b1 p)
  have HR1 := Lib.hid R1
  clear hs1 b1 R1 h
  have hpr : ¬ w.heap.size = p := by have := HPL.out; omega
  refine (take_any HP1.out 1 (by decide) (by decide)).mono ?_
  rintro e w2 ⟨rfl, P2, A2⟩
  have HP2 := Lib.hid P2
  have HG2 := Lib.hid (HG1.out.trans A2.grew)
  have HR2 := Lib.hid (HR1.out.block (A2.block _ hpr))
  have HZ2 := Lib.hid (A2.size.trans HS1.out)
  clear P2 A2 HP1 HG1 HR1 HS1
  go_wp2_with fail
  refine (take_any HP2.out 1 (by decide) (by decide)).mono ?_
  rintro e w3 ⟨rfl, P3, A3⟩
  have HP3 := Lib.hid P3
  have HG3 := Lib.hid (HG2.out.trans A3.grew)
  have HR3 := Lib.hid (HR2.out.block (A3.block _ hpr))
  have HZ3 := Lib.hid (A3.size.trans HZ2.out)
  clear P3 A3 HP2 HG2 HR2 HZ2
  go_wp2_with fail
  refine (take_any HP3.out 4 (by decide) (by decide)).mono ?_
  rintro e w4 ⟨rfl, P4, A4⟩
  have HP4 := Lib.hid P4
  have HG4 := Lib.hid (HG3.out.trans A4.grew)
  have HR4 := Lib.hid (HR3.out.block (A4.block _ hpr))
  have HZ4 := Lib.hid (A4.size.trans HZ3.out)
  clear P4 A4 HP3 HG3 HR3 HZ3
  have hst := run_storeCells_new (P := Try.prog) w4 49 #[.slice none 0 0, .slice none 0 0, .slice none 0 0, .slice none 0 0, .slice none 0 0, .slice none 0 0, .slice none 0 0, .slice none 0 0, .slice none 0 0, .slice none 0 0, .slice none 0 0, .slice none 0 0, .slice none 0 0, .slice none 0 0, .slice none 0 0, .slice none 0 0, .slice none 0 0, .slice none 0 0, .slice none 0 0, .slice none 0 0, .slice none 0 0] (laid g 0).toArray (size_laid g 0) (by simp [length_laid]) (one_laid g 0)
  go_wp2_with (refine wpList_build_as rfl 49 #[(0, .tmp 6), (1, .tmp 8), (2, .tmp 10)] rfl (laid g 0).toArray (by simp [Act.eval]; exact built_laid g) ?_)
  have R5 := alloc_rowV w4 49 (laid g 0)
  have b5 := (Below.refl w4.heap.size w4).alloc (Nat.le_refl _) (.cells (laid g 0).toArray 49)
  generalize w4.alloc (.cells (laid g 0).toArray 49) = w5 at *
  obtain ⟨q, hq⟩ : ∃ q, q = w4.heap.size := ⟨_, rfl⟩
  rw [← hq] at R5 b5 ⊢
  have HP5 := Lib.hid (HP4.out.block (b5.block p (by have := HP4.out.row.lt; omega)))
  have HG5 := Lib.hid (HG4.out.trans (below_grew (by rw [← hq]; exact b5) p))
  have HR5 := Lib.hid (HR4.out.block (b5.block _ (by have := HR4.out.lt; omega)))
  have HR5q := Lib.hid R5
  have hpq : ¬ p = q := by have := HP4.out.row.lt; omega
  have hrq : ¬ w.heap.size = q := by have := HR4.out.lt; omega
  have HZ5 := Lib.hid (show w.heap.size < q by rw [hq, HZ4.out]; omega)
  clear R5 b5 HP4 HG4 HR4 HZ4 hq
  go_loopw [12] (fun i wr => ∃ k : Nat, k ≤ 9 ∧ i = .int .i64 (k : Int) ∧ Hid (RowV wr q 49 (laid g k)) ∧ Hid (Places wr p g (6 + 12 * k)) ∧ Hid (RowV wr w.heap.size 49 [.slice none 0 0, .slice none 0 0, .slice none 0 0, .slice none 0 0, .slice none 0 0, .slice none 0 0, .slice none 0 0, .slice none 0 0, .slice none 0 0, .slice none 0 0, .slice none 0 0, .slice none 0 0, .slice none 0 0, .slice none 0 0, .slice none 0 0, .slice none 0 0, .slice none 0 0, .slice none 0 0, .slice none 0 0, .slice none 0 0, .slice none 0 0]) ∧ Hid (Grew w wr p)) (fun i _ => 9 - (intOf i).toNat)
  case atStart => exact ⟨0, by omega, rfl, HR5q, HP5, HR5, HG5⟩
  case round =>
    obtain ⟨k, hk9, rfl, HRq, HP, HR, HG⟩ := hrel
    clear HP5 HG5 HR5 HR5q
    by_cases hlt : k < 9
    · go_wp2_with fail
      refine (take_any HP.out 8 (by decide) (by omega)).mono ?_
      rintro e w6 ⟨rfl, P6, A6⟩
      have HP6 := Lib.hid P6
      have HG6 := Lib.hid (HG.out.trans A6.grew)
      have HR6 := Lib.hid (HR.out.block (A6.block _ hpr))
      have HRq6 := Lib.hid (HRq.out.block (A6.block _ (fun e => hpq e.symm)))
      clear P6 A6 HP HG HR HRq
      go_wp2_with fail
      refine (take_any HP6.out 4 (by decide) (by omega)).mono ?_
      rintro e w7 ⟨rfl, P7, A7⟩
      have HP7 := Lib.hid P7
      have HG7 := Lib.hid (HG6.out.trans A7.grew)
      have HR7 := Lib.hid (HR6.out.block (A7.block _ hpr))
      have HRq7 := Lib.hid (HRq6.out.block (A7.block _ (fun e => hpq e.symm)))
      clear P7 A7 HP6 HG6 HR6 HRq6
      have c1 := HRq7.out.cellAt (laid_at g k (3 + k * 2) (by omega))
      have c2 := HRq7.out.cellAt (laid_at g k (3 + k * 2 + 1) (by omega))
      have f1 := HRq7.out.free (3 + k * 2)
      have f2 := HRq7.out.free (3 + k * 2 + 1)
      rw [if_neg (by omega)] at c1 c2
      have RN := Lib.hid (show RowV ((w7.setCell ⟨q, 3 + k * 2, none⟩ (.slice (some ⟨g, 6 + 12 * k, none⟩) 8 8)).setCell ⟨q, 3 + k * 2 + 1, none⟩ (.slice (some ⟨g, 6 + 12 * k + 8, none⟩) 4 4)) q 49 (laid g (k + 1)) from by
        rw [← laid_set g k hlt, Nat.mul_comm k 2, show 6 + 12 * k + 8 = 14 + 12 * k by omega]
        exact (HRq7.out.set _ _).set _ _)
      have PN := Lib.hid (show Places ((w7.setCell ⟨q, 3 + k * 2, none⟩ (.slice (some ⟨g, 6 + 12 * k, none⟩) 8 8)).setCell ⟨q, 3 + k * 2 + 1, none⟩ (.slice (some ⟨g, 6 + 12 * k + 8, none⟩) 4 4)) p g (6 + 12 * (k + 1)) from by
        have := HP7.out.block (((heap_setCell_other _ ⟨q, 3 + k * 2 + 1, none⟩ p (.slice (some ⟨g, 6 + 12 * k + 8, none⟩) 4 4) hpq)).trans (heap_setCell_other w7 ⟨q, 3 + k * 2, none⟩ p (.slice (some ⟨g, 6 + 12 * k, none⟩) 8 8) hpq))
        rwa [show 6 + 12 * k + 8 + 4 = 6 + 12 * (k + 1) by omega] at this)
      have SN := Lib.hid ((HR7.out.other (i := 3 + k * 2) (v := .slice (some ⟨g, 6 + 12 * k, none⟩) 8 8) hrq).other (i := 3 + k * 2 + 1) (v := .slice (some ⟨g, 6 + 12 * k + 8, none⟩) 4 4) hrq)
      have GN := Lib.hid (show Grew w ((w7.setCell ⟨q, 3 + k * 2, none⟩ (.slice (some ⟨g, 6 + 12 * k, none⟩) 8 8)).setCell ⟨q, 3 + k * 2 + 1, none⟩ (.slice (some ⟨g, 6 + 12 * k + 8, none⟩) 4 4)) p from (HG7.out.set (by have := HZ5.out; omega) _ _).set (by have := HZ5.out; omega) _ _)
      clear HP7 HRq7 HR7 HG7
      go_wp2_with fail
      go_roundw
      case rel => exact ⟨k + 1, by omega, by go_num, RN, PN, SN, GN⟩
      case measure => simp [intOf]; omega
    · obtain rfl : k = 9 := by omega
      have HSZ := Lib.hid (size_laid g 9)
      have hst := store_laid wr w.heap.size g 9 _ rfl HR.out
      go_wp2_with (refine wpList_load_row rfl 49 (.tmp 3) rfl q rfl _ (laid g 9).toArray _ _ HRq.out Try.underlying49 rfl HSZ.out ?_)
      refine bodyPost_ret (v := .agg (laid g 9).toArray) ?_ rfl ⟨rfl, HG.out.setRow (Nat.le_refl _) _, HP.out.block (setRow_other _ _ _ _ (fun e => hpr e.symm))⟩
      exact results_cell_row rfl _ _ w.heap.size 49 _ (0, 0) _ rfl (setRow_heap _ _ _ _ _ _ HR.out) Try.underlying49 rfl HSZ.out
end Go.Proofs.Ytamibckpkhpmfaa.Sf
