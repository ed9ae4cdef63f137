/- A table in memory; made, blockOf. -/
import Derived.Test.YtbhajmecaemafaaTbA
import Derived.Laws.ResultCell
import Derived.Deep.WholeRow
namespace Go.Proofs.Ytbhajmecaemafaa.Tb
open Go.RowKit Go.Proofs.Ytbhajmecaemafaa.Oct Go.Maps
set_option linter.unusedVariables false

/-! ### made -/
theorem table_info : (Try.prog.info? 47).isSome = true := by kernel_rfl
theorem eql_self (a : Nat) (w : World) : (binOp .eql 30 (.pointer (some ⟨a, 0, none⟩)) (.pointer (some ⟨a, 0, none⟩))).run Try.prog w = .ok (.bool true) w := by
  obtain ⟨j, hj⟩ := Option.isSome_iff_exists.1 table_info
  exact run_eql_ptr_same (P := Try.prog) w ⟨a, 0, none⟩ Try.underlying30 hj
theorem eql_nil (a : Addr) (w : World) : (binOp .eql 30 (.pointer none) (.pointer (some a))).run Try.prog w = .ok (.bool false) w := by
  have h : ∀ d : Nat, (Op.equalIn (d + 1) 30 (.pointer none) (.pointer (some a))).run Try.prog w = .ok false w := fun d => by
    simp [Op.equalIn, run_underlying Try.underlying30]
  simp only [binOp]
  simp [Op.equal, Op.maxDepth, h 9999]
set_option maxRecDepth 100000 in
theorem made_self (a : Nat) (w : World) (h : w.cell? ⟨a, 2, none⟩ = some (.pointer (some ⟨a, 0, none⟩))) :
    Calls Try.prog 20 #[.pointer (some ⟨a, 0, none⟩)] w fun e w' => e = .returned (.bool true) ∧ w = w' := by
  have k := eql_self a w
  go_enter Try.func20, Try.ntmps20
  go_wp2
  go_ret
  exact ⟨rfl, rfl⟩
theorem made_none (w : World) :
    Calls Try.prog 20 #[.pointer none] w fun e w' => e = .returned (.bool false) ∧ w = w' := by
  go_enter Try.func20, Try.ntmps20
  go_wp2
  go_ret
  exact ⟨rfl, rfl⟩
set_option maxRecDepth 100000 in
theorem made_bare (a : Nat) (w : World) (h : w.cell? ⟨a, 2, none⟩ = some (.pointer none)) :
    Calls Try.prog 20 #[.pointer (some ⟨a, 0, none⟩)] w fun e w' => e = .returned (.bool false) ∧ w = w' := by
  have k := eql_nil ⟨a, 0, none⟩ w
  go_enter Try.func20, Try.ntmps20
  go_wp2
  go_ret
  exact ⟨rfl, rfl⟩

/-! ### blockOf -/
def zeros : List UInt8 := List.replicate 128 0
theorem block_row : (Try.prog.info? 51).map (fun i => (i.zero, i.size)) = some (some (bval zeros), 128) := by kernel_rfl
theorem zero_block (w : World) : (zeroValue 51).run Try.prog w = .ok (bval zeros) w := (zero_of_info block_row).1 w
theorem size_bvals {x : List UInt8} (h : x.length = 128) : (Try.prog.info? 51).map (·.size) = some (vals x).toArray.size := by
  rw [(zero_of_info block_row).2]
  simp [length_vals, h]
theorem one_bvals (x : List UInt8) : (vals x).toArray.all (·.oneCell') = true := by
  rw [Array.all_eq_true_iff_forall_mem]
  intro v hv
  simp [vals] at hv
  obtain ⟨c, _, rfl⟩ := hv
  rfl
theorem cells_bval (x : List UInt8) : (bval x).cells = (vals x).toArray := rfl
theorem size_zero (x : List UInt8) (h : x.length = 128) : (vals x).toArray.size = 128 := by simp [length_vals, h]
/-- bytes copied into a block that is known. -/
theorem run_copy_block (w : World) (ty T : TypeId) (g dCap : Nat) (cur bs : List UInt8) (R : RowV w g T (vals cur)) (a : Option Addr) (cap : Nat) (hlen : bs.length = 128) (hc : cur.length = 128) (hT : Oct.Told w a bs) :
    ∃ w', (Builtin.copy_ #[26, 26] ty #[.slice (some ⟨g, 0, none⟩) 128 dCap, .slice a 128 cap]).run Try.prog w = .ok (goInt 128) w' ∧ RowV w' g T (vals bs) ∧ Below g w w' := by
  have hsz : (Try.prog.info? 5).map (·.size) = some 1 := by kernel_rfl
  rcases hT with rfl | ⟨b, o, rfl, hT⟩
  · simp at hlen
  · have h := run_copy_row (P := Try.prog) w 26 26 ty 5 g 0 128 dCap ⟨b, o, none⟩ 128 cap (vals cur).toArray T (vals bs) Try.underlying26 hsz R
      (by rw [length_vals, hlen]; rfl)
      (fun j v hj => by
        have hjl : j < bs.length := by
          rcases Nat.lt_or_ge j bs.length with h | h
          · exact h
          · rw [List.getElem?_eq_none (by rw [length_vals]; exact h)] at hj; cases hj
        have hv : v = .int .u8 (bs[j].toNat : Int) := by simpa [vals, hjl] using hj.symm
        rw [hv, add_plain]
        exact hT j hjl)
      (by rw [length_vals, hlen]; simp [length_vals, hc])
      (fun v hv => by simp [vals] at hv; obtain ⟨c, _, rfl⟩ := hv; rfl)
    rw [length_vals, hlen] at h
    refine ⟨_, h, ?_, ⟨rfl, rfl, rfl, by simp, fun k hk => setRow_other w g k _ (by omega)⟩⟩
    unfold RowV
    rw [setRow_heap w g _ _ _ _ R]
    have e : (vals cur).drop 128 = [] := List.drop_of_length_le (by rw [length_vals, hc]; exact Nat.le_refl _)
    simp [e]
theorem slice_block (g : Nat) (w : World) : (Instr.sliceAt 51 (.pointer (some ⟨g, 0, none⟩)) none none none).run Try.prog w = .ok (.slice (some ⟨g, 0, none⟩) 128 128) w := by
  kernel_rfl
theorem RowV.setRow {w : World} {g : Nat} {T : TypeId} {cur : List Value} (h : RowV w g T cur) (vs : List Value) : RowV (w.setRow g vs.toArray) g T vs := by
  unfold RowV at h ⊢
  rw [setRow_heap w g _ _ _ _ h]
theorem setRow_below (w : World) (g : Nat) (vs : Array Value) {B : Nat} (h : B ≤ g) : Below B w (w.setRow g vs) :=
  ⟨rfl, rfl, rfl, by simp, fun k hk => setRow_other w g k _ (by omega)⟩
theorem RowV.setRowOther {w : World} {g q : Nat} {T : TypeId} {cur : List Value} {vs : Array Value} (h : RowV w g T cur) (hq : g ≠ q) : RowV (w.setRow q vs) g T cur := by
  unfold RowV at h ⊢
  rw [setRow_other w q g _ hq, h]
theorem zero_block' (w : World) : (zeroValue 51).run Try.prog w = .ok (.agg (vals zeros).toArray) w := zero_block w
set_option maxRecDepth 100000 in
theorem blockOf_yes (a : Option Addr) (cap : Nat) (bs : List UInt8) (hl : bs.length = 128) (w : World) (hb : Oct.Told w a bs) :
    Calls Try.prog 19 #[.slice a 128 cap] w fun e w' => e = .returned (.tuple #[.agg (vals bs).toArray, .bool true]) ∧ Below w.heap.size w w' := by
  have hz := zero_block'
  have hs := slice_block
  have R1 := alloc_rowV w 51 (vals zeros)
  have b1 := (Below.refl w.heap.size w).alloc (Nat.le_refl _) (.cells (vals zeros).toArray 51)
  have b2 := b1.alloc b1.size (.cells (vals zeros).toArray 51)
  have R2 := alloc_rowV (w.alloc (.cells (vals zeros).toArray 51)) 51 (vals zeros)
  have R1' := R1.below (B := w.heap.size + 1) (by omega) ((Below.refl _ (w.alloc (.cells (vals zeros).toArray 51))).alloc (by simp) (.cells (vals zeros).toArray 51))
  have T2 := (hb.alloc (.cells (vals zeros).toArray 51)).alloc (.cells (vals zeros).toArray 51)
  have e1 : (w.alloc (.cells (vals zeros).toArray 51)).heap.size = w.heap.size + 1 := by simp
  rw [e1] at R2
  obtain ⟨w3, hcopy, R3, B3⟩ := run_copy_block ((w.alloc (.cells (vals zeros).toArray 51)).alloc (.cells (vals zeros).toArray 51)) 3 51 (w.heap.size + 1) 128 zeros bs R2 a cap hl (by decide) T2
  have HR := Lib.hid R3
  have HQ := Lib.hid (R1'.below (B := w.heap.size + 1) (by omega) B3)
  have HB := Lib.hid (b2.trans (B3.mono (by omega)))
  clear hb R1 b1 b2 R2 R1' T2 R3 B3 e1
  go_enter Try.func19, Try.ntmps19
  go_wp2_with (first | (refine wpList_store_row rfl 51 (.tmp 2) (.tmp 12) rfl w.heap.size (vals bs).toArray rfl rfl _ _ HQ.out (size_bvals hl) (by simp [length_vals, hl, zeros]) (one_bvals _) ?_) | (refine wpList_load_row rfl 51 (.tmp 4) rfl (w.heap.size + 1) rfl _ (vals bs).toArray _ _ HR.out Try.underlying51 rfl (size_bvals hl) ?_))
  refine bodyPost_ret (v := .tuple #[.agg (vals bs).toArray, .bool true]) ?_ rfl ⟨rfl, HB.out.trans (setRow_below _ _ _ (Nat.le_refl _))⟩
  have hld := run_loadVar_row (P := Try.prog) _ w.heap.size 51 51 _ (0, 0) _ (HQ.out.setRow (vals bs)) Try.underlying51 rfl (size_bvals hl)
  rw [results_cell_tmp rfl]
  simp [asAddr, Result.andThen, hld]
set_option maxRecDepth 100000 in
theorem blockOf_no (a : Option Addr) (n cap : Nat) (hl : n ≠ 128) (w : World) :
    Calls Try.prog 19 #[.slice a n cap] w fun e w' => e = .returned (.tuple #[.agg (vals zeros).toArray, .bool false]) ∧ Below w.heap.size w w' := by
  have hz := zero_block'
  have R1 := alloc_rowV w 51 (vals zeros)
  have b1 := (Below.refl w.heap.size w).alloc (Nat.le_refl _) (.cells (vals zeros).toArray 51)
  have b2 := b1.alloc b1.size (.cells (vals zeros).toArray 51)
  have R2 := alloc_rowV (w.alloc (.cells (vals zeros).toArray 51)) 51 (vals zeros)
  have e1 : (w.alloc (.cells (vals zeros).toArray 51)).heap.size = w.heap.size + 1 := by simp
  have R1' := R1.below (B := w.heap.size + 1) (by omega) ((Below.refl _ (w.alloc (.cells (vals zeros).toArray 51))).alloc (by simp) (.cells (vals zeros).toArray 51))
  rw [e1] at R2
  have HR := Lib.hid R2
  have HQ := Lib.hid R1'
  have HB := Lib.hid b2
  have hn : ¬ ((n : Int) = 128) := by omega
  clear R1 b1 b2 R2 R1' e1 hl
  go_enter Try.func19, Try.ntmps19
  go_wp2_with (first | (refine wpList_store_row rfl 51 (.tmp 2) (.tmp 8) rfl w.heap.size (vals zeros).toArray rfl rfl _ _ HQ.out (size_bvals (by decide)) (by simp [length_vals, zeros]) (one_bvals _) ?_) | (refine wpList_load_row rfl 51 (.tmp 4) rfl (w.heap.size + 1) rfl _ (vals zeros).toArray _ _ HR.out Try.underlying51 rfl (size_bvals (by decide)) ?_))
  refine bodyPost_ret (v := .tuple #[.agg (vals zeros).toArray, .bool false]) ?_ rfl ⟨rfl, HB.out.trans (setRow_below _ _ _ (Nat.le_refl _))⟩
  have hld := run_loadVar_row (P := Try.prog) _ w.heap.size 51 51 _ (0, 0) _ (HQ.out.setRow (vals zeros)) Try.underlying51 rfl (size_bvals (by decide))
  rw [results_cell_tmp rfl]
  simp [asAddr, Result.andThen, hld]
end Go.Proofs.Ytbhajmecaemafaa.Tb
