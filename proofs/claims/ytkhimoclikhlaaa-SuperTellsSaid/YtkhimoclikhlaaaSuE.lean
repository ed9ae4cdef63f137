/- Contract: (*content).super: the super whose numbers these are. -/
import Derived.Test.YtkhimoclikhlaaaSuD
namespace Go.Proofs.Ytkhimoclikhlaaa.Su
open Go.RowKit Go.Proofs.Ytkhimoclikhlaaa.Oct Go.Proofs.Ytkhimoclikhlaaa.Sf
set_option linter.unusedVariables false

/-- The super of these numbers. -/
def supOf (f : Nat → Nat) : Sup := (List.range 18).map f
theorem nth_supOf (f : Nat → Nat) (j : Nat) (h : j < 18) : nth (supOf f) j = f j := by simp [nth, supOf, h]
theorem length_supOf (f : Nat → Nat) : (supOf f).length = 18 := by simp [supOf]
def supK (f : Nat → Nat) (k j : Nat) : Nat := if 2 + k ≤ j ∧ j < 10 then 0 else f j
theorem supOf_congr {f g : Nat → Nat} (h : ∀ j, j < 18 → f j = g j) : supOf f = supOf g := by
  unfold supOf
  apply List.map_congr_left
  intro j hj
  exact h j (by simpa using hj)
theorem supK_all (f : Nat → Nat) : supOf (supK f 8) = supOf f := supOf_congr fun j hj => by unfold supK; rw [if_neg (by omega)]
theorem scells_set (f : Nat → Nat) (j v : Nat) (h : j < 18) : (scells (supOf f)).set j (scell j v) = scells (supOf (upd f j v)) := by
  apply List.ext_getElem
  · simp [scells]
  · intro i h1 h2
    have hi : i < 18 := by simpa [scells] using h2
    rw [List.getElem_set]
    simp only [scells, List.getElem_map, List.getElem_range]
    rw [nth_supOf _ i hi, nth_supOf _ i hi]
    unfold upd
    by_cases e : j = i
    · subst e; simp
    · rw [if_neg e, if_neg (fun e2 => e e2.symm)]
theorem supK_next (f : Nat → Nat) (k : Nat) (h : k < 8) : (scells (supOf (supK f k))).set (2 + k) (.int .u32 (f (2 + k) : Int)) = scells (supOf (supK f (k + 1))) := by
  rw [← scell_small (2 + k) (f (2 + k)) (by omega) (by omega), scells_set _ _ _ (by omega)]
  congr 1
  refine supOf_congr fun j hj => ?_
  unfold upd supK
  by_cases e : j = 2 + k
  · subst e; rw [if_pos rfl, if_neg (by omega)]
  · rw [if_neg e]
    by_cases e2 : 2 + k ≤ j ∧ j < 10
    · rw [if_pos e2, if_pos (by omega)]
    · rw [if_neg e2, if_neg (by omega)]
theorem lits_supK (f : Nat → Nat) : [.int .u64 (f 0 : Int), .int .u32 (f 1 : Int), .int .u32 0, .int .u32 0, .int .u32 0, .int .u32 0, .int .u32 0, .int .u32 0, .int .u32 0, .int .u32 0, .int .u64 (f 10 : Int), .int .u64 (f 11 : Int), .int .u64 (f 12 : Int), .int .u64 (f 13 : Int), .int .u64 (f 14 : Int), .int .u64 (f 15 : Int), .int .u64 (f 16 : Int), .int .u64 (f 17 : Int)] = scells (supOf (supK f 0)) := by
  have e : supOf (supK f 0) = [f 0, f 1, 0, 0, 0, 0, 0, 0, 0, 0, f 10, f 11, f 12, f 13, f 14, f 15, f 16, f 17] := rfl
  rw [e]
  rfl
theorem scells_zero : scells zero18 = #[(.int .u64 0), (.int .u32 0), (.int .u32 0), (.int .u32 0), (.int .u32 0), (.int .u32 0), (.int .u32 0), (.int .u32 0), (.int .u32 0), (.int .u32 0), (.int .u64 0), (.int .u64 0), (.int .u64 0), (.int .u64 0), (.int .u64 0), (.int .u64 0), (.int .u64 0), (.int .u64 0)].toList := rfl
theorem size_scells (s : Sup) : (Try.prog.info? 27).map (·.size) = some (scells s).toArray.size := by rw [super_size]; simp [length_scells]
theorem one_scells (s : Sup) : (scells s).toArray.all (·.oneCell') = true := by
  rw [Array.all_eq_true_iff_forall_mem]
  exact fun v hv => scells_one s v (by simpa using hv)
theorem store_scells (w : World) (r : Nat) (s : Sup) (old : List Value) (hl : old.length = 18) (R : RowV w r 27 old) : (storeCells ⟨r, 0, none⟩ (scells s)).run Try.prog w = .ok () (w.setRow r (scells s).toArray) := by
  have := run_storeCells_from (P := Try.prog) r 27 (scells s) 0 old.toArray w R (by simp [length_scells, hl]) (scells_one s)
  simpa using this
def croots (f : Nat → Nat) : List Value := (List.range 8).map fun i => .int .u64 (f (2 + i) : Int)
theorem length_croots (f : Nat → Nat) : (croots f).length = 8 := by simp [croots]
theorem row_croots {w : World} {B : Nat} {T : TypeId} {f : Nat → Nat} (h : RowV w B T (cvals f)) : w.rangeAt B 2 (croots f) := by
  intro j v hv
  have hj : j < 8 := by have := (List.getElem?_eq_some_iff.1 hv).1; rwa [length_croots] at this
  have : v = .int .u64 (f (2 + j) : Int) := by simpa [croots, hj] using hv.symm
  rw [this]
  exact h.cellAt (cvals_at f (2 + j) (by omega))
theorem run_croot (f : Nat → Nat) (w : World) (i : Nat) (h : i < 8) : (Instr.index 25 (.agg (croots f).toArray) (.int .i64 (i : Int))).run Try.prog w = .ok (.int .u64 (f (2 + i) : Int)) w := by
  have h1 : (croots f)[i]? = some (.int .u64 (f (2 + i) : Int)) := by simp [croots, h]
  unfold Instr.index
  simp [go_sem]
  rw [if_pos h, h1]
  rfl
theorem cell_c {w w' : World} {c : Nat} {f : Nat → Nat} (RC : RowV w c 55 (cvals f)) (q : Below w.heap.size w w') (j : Nat) (h : j < 19) : w'.cell? ⟨c, j, none⟩ = some (.int .u64 (f j : Int)) := (RC.below RC.lt q).cellAt (cvals_at f j h)

set_option maxRecDepth 100000 in
set_option maxHeartbeats 4000000 in
theorem super_any (f : Nat → Nat) (c : Nat) (w : World) (RC : RowV w c 55 (cvals f)) (hsm : ∀ j, 1 ≤ j → j < 10 → f j < 4294967296) :
    Calls Try.prog 32 #[.pointer (some ⟨c, 0, none⟩)] w fun e w' => e = .returned (sval (supOf f)) ∧ Below w.heap.size w w' := by
  have R1 := alloc_rowV w 27 (scells zero18)
  change RowV (w.alloc (.cells #[(.int .u64 0), (.int .u32 0), (.int .u32 0), (.int .u32 0), (.int .u32 0), (.int .u32 0), (.int .u32 0), (.int .u32 0), (.int .u32 0), (.int .u32 0), (.int .u64 0), (.int .u64 0), (.int .u64 0), (.int .u64 0), (.int .u64 0), (.int .u64 0), (.int .u64 0), (.int .u64 0)] 27)) _ _ _ at R1
  have b1 := (Below.refl w.heap.size w).alloc (Nat.le_refl _) (.cells #[(.int .u64 0), (.int .u32 0), (.int .u32 0), (.int .u32 0), (.int .u32 0), (.int .u32 0), (.int .u32 0), (.int .u32 0), (.int .u32 0), (.int .u32 0), (.int .u64 0), (.int .u64 0), (.int .u64 0), (.int .u64 0), (.int .u64 0), (.int .u64 0), (.int .u64 0), (.int .u64 0)] 27)
  have HC := Lib.hid RC
  have hf1 := hsm 1 (by decide) (by decide)
  have HSM := Lib.hid hsm
  clear RC hsm
  unfold sval
  go_enter Try.func32, Try.ntmps32
  go_upto_region 1 with (fail)
  have hs1 : (w.alloc (.cells #[(.int .u64 0), (.int .u32 0), (.int .u32 0), (.int .u32 0), (.int .u32 0), (.int .u32 0), (.int .u32 0), (.int .u32 0), (.int .u32 0), (.int .u32 0), (.int .u64 0), (.int .u64 0), (.int .u64 0), (.int .u64 0), (.int .u64 0), (.int .u64 0), (.int .u64 0), (.int .u64 0)] 27)).heap.size = w.heap.size + 1 := by simp
  generalize w.alloc (.cells #[(.int .u64 0), (.int .u32 0), (.int .u32 0), (.int .u32 0), (.int .u32 0), (.int .u32 0), (.int .u32 0), (.int .u32 0), (.int .u32 0), (.int .u32 0), (.int .u64 0), (.int .u64 0), (.int .u64 0), (.int .u64 0), (.int .u64 0), (.int .u64 0), (.int .u64 0), (.int .u64 0)] 27) = w1 at *
  have HC1 := Lib.hid (HC.out.below HC.out.lt b1)
  have HQ := Lib.hid R1
  have HB := Lib.hid b1
  have HS1 := Lib.hid hs1
  clear R1 b1 hs1
  have KT := Lib.hid (show ∀ w', Below w1.heap.size w1 w' → (w'.cell? ⟨c, 0, none⟩ = some (.int .u64 (f 0 : Int)) ∧ w'.cell? ⟨c, 1, none⟩ = some (.int .u64 (f 1 : Int)) ∧ w'.cell? ⟨c, 10, none⟩ = some (.int .u64 (f 10 : Int)) ∧ w'.cell? ⟨c, 11, none⟩ = some (.int .u64 (f 11 : Int)) ∧ w'.cell? ⟨c, 12, none⟩ = some (.int .u64 (f 12 : Int)) ∧ w'.cell? ⟨c, 13, none⟩ = some (.int .u64 (f 13 : Int)) ∧ w'.cell? ⟨c, 14, none⟩ = some (.int .u64 (f 14 : Int)) ∧ w'.cell? ⟨c, 15, none⟩ = some (.int .u64 (f 15 : Int)) ∧ w'.cell? ⟨c, 16, none⟩ = some (.int .u64 (f 16 : Int)) ∧ w'.cell? ⟨c, 17, none⟩ = some (.int .u64 (f 17 : Int))) from fun w' q => let RC := HC1.out; ⟨(cell_c RC q 0 (by decide)), (cell_c RC q 1 (by decide)), (cell_c RC q 10 (by decide)), (cell_c RC q 11 (by decide)), (cell_c RC q 12 (by decide)), (cell_c RC q 13 (by decide)), (cell_c RC q 14 (by decide)), (cell_c RC q 15 (by decide)), (cell_c RC q 16 (by decide)), (cell_c RC q 17 (by decide))⟩)
  have hst0 := run_storeCells_new (P := Try.prog) w1.drew 27 #[(.int .u64 0), (.int .u32 0), (.int .u32 0), (.int .u32 0), (.int .u32 0), (.int .u32 0), (.int .u32 0), (.int .u32 0), (.int .u32 0), (.int .u32 0), (.int .u64 0), (.int .u64 0), (.int .u64 0), (.int .u64 0), (.int .u64 0), (.int .u64 0), (.int .u64 0), (.int .u64 0)] (scells (supOf (supK f 0))).toArray (size_scells _) (by simp [length_scells]) (one_scells _)
  rw [show (scells (supOf (supK f 0))).toArray.toList = [.int .u64 (f 0 : Int), .int .u32 (f 1 : Int), .int .u32 0, .int .u32 0, .int .u32 0, .int .u32 0, .int .u32 0, .int .u32 0, .int .u32 0, .int .u32 0, .int .u64 (f 10 : Int), .int .u64 (f 11 : Int), .int .u64 (f 12 : Int), .int .u64 (f 13 : Int), .int .u64 (f 14 : Int), .int .u64 (f 15 : Int), .int .u64 (f 16 : Int), .int .u64 (f 17 : Int)] from (lits_supK f).symm] at hst0
  have hwr1 : IntKind.u32.wrap (f 1 : Int) = (f 1 : Int) := by simp [IntKind.wrap_u32]; omega
  have hst := hst0
  have RN := alloc_rowV w1.drew 27 (scells (supOf (supK f 0)))
  have BN := ((show Still w1 w1.drew from ⟨rfl, rfl, rfl, rfl⟩).below w1.heap.size).trans ((Below.refl w1.drew.heap.size w1.drew).alloc (Nat.le_refl _) (.cells (scells (supOf (supK f 0))).toArray 27))
  rw [show (scells (supOf (supK f 0))).toArray = #[.int .u64 (f 0 : Int), .int .u32 (f 1 : Int), .int .u32 0, .int .u32 0, .int .u32 0, .int .u32 0, .int .u32 0, .int .u32 0, .int .u32 0, .int .u32 0, .int .u64 (f 10 : Int), .int .u64 (f 11 : Int), .int .u64 (f 12 : Int), .int .u64 (f 13 : Int), .int .u64 (f 14 : Int), .int .u64 (f 15 : Int), .int .u64 (f 16 : Int), .int .u64 (f 17 : Int)] from by rw [← lits_supK f]] at RN BN
  have HN := Lib.hid (And.intro (Lib.hid RN) (Lib.hid BN))
  clear RN BN
  go_cut [3] (fun s3 wx => ∃ q : Nat, s3 = .pointer (some ⟨q, 0, none⟩) ∧ w1.heap.size ≤ q ∧ Hid (RowV wx q 27 (scells (supOf (supK f 0)))) ∧ Hid (Below w1.heap.size w1 wx))
  case first =>
    go_region_held3 (fun w' => w'.cell? ⟨c, 0, none⟩ = some (.int .u64 (f 0 : Int)) ∧ w'.cell? ⟨c, 1, none⟩ = some (.int .u64 (f 1 : Int)) ∧ w'.cell? ⟨c, 10, none⟩ = some (.int .u64 (f 10 : Int)) ∧ w'.cell? ⟨c, 11, none⟩ = some (.int .u64 (f 11 : Int)) ∧ w'.cell? ⟨c, 12, none⟩ = some (.int .u64 (f 12 : Int)) ∧ w'.cell? ⟨c, 13, none⟩ = some (.int .u64 (f 13 : Int)) ∧ w'.cell? ⟨c, 14, none⟩ = some (.int .u64 (f 14 : Int)) ∧ w'.cell? ⟨c, 15, none⟩ = some (.int .u64 (f 15 : Int)) ∧ w'.cell? ⟨c, 16, none⟩ = some (.int .u64 (f 16 : Int)) ∧ w'.cell? ⟨c, 17, none⟩ = some (.int .u64 (f 17 : Int))) ((refine KT.out _ ?_; (repeat' (first | with_reducible exact Below.refl _ _ | with_reducible refine Below.drew ?_ | with_reducible refine Below.alloc ?_ (by simp) _)))) (first | fail)
    all_goals
      go_wp2_with fail
      go_meet
      exact ⟨_, rfl, Nat.le_refl _, HN.out⟩
  case rest =>
    obtain ⟨q, rfl, hq, HCq, HB1⟩ := hcut
    obtain ⟨w2, hw2⟩ : ∃ x, x = wc := ⟨_, rfl⟩
    subst hw2
    clear hst hst0 KT HN
    have HQ2 := Lib.hid (HQ.out.below HQ.out.lt HB1.out)
    have HC2 := Lib.hid (HC1.out.below HC1.out.lt HB1.out)
    have HB2 := Lib.hid (HB.out.trans (HB1.out.mono HB.out.size))
    have hq1 : ¬ (w.heap.size = q) := by have := HQ.out.lt; omega
    have hwq : w.heap.size ≤ q := by have := HB.out.size; omega
    clear HQ HC1 HB HB1 HC
    go_wp2_with (refine wpList_load_mid rfl 25 (.tmp 22) rfl c 2 rfl (croots f) _ (row_croots HC2.out) Try.underlying25 rfl (by rw [marks_size, length_croots]) ?_)
    go_loopw [24] (fun i wr => ∃ k : Nat, k ≤ 8 ∧ i = .int .i64 (k : Int) ∧ Hid (RowV wr q 27 (scells (supOf (supK f k)))) ∧ Hid (RowV wr w.heap.size 27 (scells zero18)) ∧ Hid (Below w.heap.size w wr)) (fun i _ => 8 - (intOf i).toNat)
    case atStart => exact ⟨0, by omega, rfl, HCq, HQ2, HB2⟩
    case round =>
      obtain ⟨k, hk, rfl, HC, HQ, HB⟩ := hrel
      clear HCq HQ2 HB2 HC2
      by_cases hlt : k < 8
      · have hix := run_croot f wr k hlt
        have hx := HSM.out (2 + k) (by omega) (by omega)
        have cc := HC.out.cellAt (scells_at (supOf (supK f k)) (2 + k) (by omega))
        have ff := HC.out.free (2 + k)
        have hk0 : (0 : Int) ≤ (k : Int) := by omega
        have hk8 : (k : Int) < 8 := by omega
        have hwr : IntKind.u32.wrap (f (2 + k) : Int) = (f (2 + k) : Int) := by simp [IntKind.wrap_u32]; omega
        have hmd : ((f (2 + k) : Int)) % 4294967296 = (f (2 + k) : Int) := by omega
        have RN := Lib.hid (show RowV (wr.setCell ⟨q, 2 + k, none⟩ (.int .u32 (f (2 + k) : Int))) q 27 (scells (supOf (supK f (k + 1)))) from by
          rw [← supK_next f k hlt]; exact HC.out.set _ _)
        have QN := Lib.hid (HQ.out.other (i := 2 + k) (v := .int .u32 (f (2 + k) : Int)) hq1)
        have BN := Lib.hid (HB.out.setCell (p := ⟨q, 2 + k, none⟩) hwq (.int .u32 (f (2 + k) : Int)))
        clear HC HQ HB
        go_wp2_with fail
        go_roundw
        case rel => exact ⟨k + 1, by omega, by go_num, RN, QN, BN⟩
        case measure => simp [intOf]; omega
      · obtain rfl : k = 8 := by omega
        have hst := store_scells wr w.heap.size (supOf (supK f 8)) _ (length_scells _) HQ.out
        have hlc := length_scells (supOf (supK f 8))
        go_wp2_with (refine wpList_load_row rfl 27 (.tmp 3) rfl q rfl _ (scells (supOf (supK f 8))).toArray _ _ HC.out Try.underlying27 rfl (size_scells _) ?_)
        refine bodyPost_ret (v := .agg (scells (supOf (supK f 8))).toArray) ?_ rfl ⟨by rw [supK_all], HB.out.trans ?_⟩
        · exact results_cell_row rfl _ _ w.heap.size 27 _ (0, 0) _ rfl (setRow_heap _ _ _ _ _ _ HQ.out) Try.underlying27 rfl (size_scells _)
        · exact ⟨rfl, rfl, rfl, by simp, fun k hk => setRow_other _ _ _ _ (by omega)⟩
end Go.Proofs.Ytkhimoclikhlaaa.Su
