/- What a table answers: Len, Print. -/
import Derived.Test.YtbhajmecaemafaaTbB
import Derived.Deep.DeepCutAuto
namespace Go.Proofs.Ytbhajmecaemafaa.Tb
open Go.RowKit Go.Proofs.Ytbhajmecaemafaa.Oct Go.Maps
set_option linter.unusedVariables false

def tcells (a b : Nat) (rest : UInt64) (s : Option Addr) : List Value := [.map (some b), .int .u64 (rest.toNat : Int), .pointer s]
/-- The map of a table, at block b: these pairs. -/
structure Mp (w : World) (b : Nat) (ps : List Pr) : Prop where
  own : w.ownsMap Try.prog 51 (plainElem Try.prog 23) b ps.length (Dm ps)
  good : Good ps
/-- A table. -/
structure Tab (w : World) (a b : Nat) (ps : List Pr) (rest : UInt64) : Prop where
  row : RowV w a 47 (tcells a b rest (some ⟨a, 0, none⟩))
  mp : Mp w b ps
  few : ps.length ≤ 1000

theorem below_grown {w w' : World} (k : Below w.heap.size w w') : w.grownBy w' none := ⟨k.os, k.tape, k.output, k.size, fun i hi _ => k.block i hi⟩
theorem Mp.lt {w : World} {b : Nat} {ps : List Pr} (h : Mp w b ps) : b < w.heap.size := h.own.lt
theorem Mp.at {w w' : World} {b : Nat} {ps : List Pr} (h : Mp w b ps) (k : w'.heap[b]? = w.heap[b]?) : Mp w' b ps := by
  obtain ⟨es, clock, hb, F, hs, hD⟩ := h.own
  exact ⟨⟨es, clock, k.trans hb, F, hs, hD⟩, h.good⟩
theorem Mp.below {w w' : World} {b B : Nat} {ps : List Pr} (h : Mp w b ps) (hb : b < B) (k : Below B w w') : Mp w' b ps := h.at (k.block b hb)
theorem Tab.below {w w' : World} {a b B : Nat} {ps : List Pr} {rest : UInt64} (h : Tab w a b ps rest) (ha : a < B) (hb : b < B) (k : Below B w w') : Tab w' a b ps rest :=
  ⟨h.row.below ha k, h.mp.below hb k, h.few⟩
theorem Tab.kept {w w' : World} {a b : Nat} {ps : List Pr} {rest : UInt64} (h : Tab w a b ps rest) (k : Below w.heap.size w w') : Tab w' a b ps rest := h.below h.row.lt h.mp.lt k
theorem Tab.c0 {w : World} {a b : Nat} {ps : List Pr} {rest : UInt64} (h : Tab w a b ps rest) : w.cell? ⟨a, 0, none⟩ = some (.map (some b)) := h.row.cellAt rfl
theorem Tab.c1 {w : World} {a b : Nat} {ps : List Pr} {rest : UInt64} (h : Tab w a b ps rest) : w.cell? ⟨a, 1, none⟩ = some (.int .u64 (rest.toNat : Int)) := h.row.cellAt rfl
theorem Tab.c2 {w : World} {a b : Nat} {ps : List Pr} {rest : UInt64} (h : Tab w a b ps rest) : w.cell? ⟨a, 2, none⟩ = some (.pointer (some ⟨a, 0, none⟩)) := h.row.cellAt rfl

theorem zero_num (w : World) : (zeroValue 23).run Try.prog w = .ok (.int .u64 0) w := by kernel_rfl
theorem pdat_of {c : Int} {x : UInt64} (h : pdat x = .lit (.int .u64 c)) : c = (x.toNat : Int) := by
  simp only [pdat, DataW.lit.injEq, Lit.int.injEq, true_and] at h
  exact h.symm
theorem Mp.look {w : World} {b : Nat} {ps : List Pr} (h : Mp w b ps) (x : List UInt8) (hx : x.length = 128) :
    (Instr.lookup 45 (.map (some b)) (.agg (vals x).toArray) true).run Try.prog w = .ok (.tuple #[.int .u64 (((seek ps x).getD 0).toNat : Int), .bool (isIn ps x)]) w := by
  obtain ⟨v, p, hrun, hv⟩ := h.own.look_ok block_law Try.underlying45 (zero_num w) (zd := pdat 0) (zp := []) (plainElem_int Try.underlying23 (by decide)) (bkey_of x hx)
  rw [at_Dm h.good hx] at hv
  obtain ⟨c, rfl, hc, _⟩ := plainElem_int_inv Try.underlying23 hv
  rw [has_Dm h.good.len hx] at hrun
  rw [pdat_of (congrArg Prod.fst hc)] at hrun
  exact hrun
theorem Mp.len {w : World} {b : Nat} {ps : List Pr} (h : Mp w b ps) (ty : TypeId) : (Builtin.len_ #[45] ty #[.map (some b)]).run Try.prog w = .ok (.int .i64 (ps.length : Int)) w := by
  have := h.own.len (t := 45) Try.underlying45 ty
  rwa [size_Dm h.good] at this

theorem quiet_load {P : Program} {ops : Array Oper} {C : World → Prop} {Q : Act → Prop} {a : Act} {o : Oper} {rest : List Oper} (ty : TypeId) (x : Operand) (v p : Value)
    (hw : Region.wanted o (yielded ops a.tmps) = true) (ho : o.op = .load ty x) (hx : a.eval x = p) (hrun : ∀ w, C w → (Instr.loadAt ty p).run P w = .ok v w) (h : wpQuiet P ops C Q rest (a.put o.dst v)) : wpQuiet P ops C Q (o :: rest) a := by
  refine BigFrame.wpQuiet_want hw fun K hK => ⟨v, fun w hC => ?_, hK _ h⟩
  unfold Oper.quietAt
  simp [execOp, ho, hx, hrun w hC, Result.andThen, Oper.quietUpon]
theorem load_block {w : World} {g : Nat} {x : List UInt8} (R : RowV w g 51 (vals x)) (hx : x.length = 128) :
    (Instr.loadAt 51 (.pointer (some ⟨g, 0, none⟩))).run Try.prog w = .ok (.agg (vals x).toArray) w := by
  simp only [Instr.loadAt, Instr.sureAddr, Sem.run_bind, Sem.run_pure, Result.andThen]
  exact run_loadVar_row (P := Try.prog) w g 51 51 _ (0, 0) _ R Try.underlying51 rfl (size_bvals hx)

/-! ### Len -/
set_option maxRecDepth 100000 in
theorem len_tab {w : World} {a b : Nat} {ps : List Pr} {rest : UInt64} (h : Tab w a b ps rest) :
    Calls Try.prog 15 #[.pointer (some ⟨a, 0, none⟩)] w fun e w' => e = .returned (.int .i64 (ps.length : Int)) ∧ w = w' := by
  have c0 := h.c0
  have c2 := h.c2
  have hl := fun ty => h.mp.len ty
  clear h
  go_enter Try.func15, Try.ntmps15
  go_wp2_with fail
  refine (made_self a _ c2).mono ?_
  rintro e w' ⟨rfl, rfl⟩
  go_wp2_with fail
  go_ret
  exact ⟨rfl, rfl⟩
theorem len_none (w : World) :
    Calls Try.prog 15 #[.pointer none] w fun e w' => e = .returned (.int .i64 0) ∧ w = w' := by
  go_enter Try.func15, Try.ntmps15
  go_wp2_with fail
  refine (made_none _).mono ?_
  rintro e w' ⟨rfl, rfl⟩
  go_wp2_with fail
  go_ret
  exact ⟨rfl, rfl⟩
theorem len_bare (a : Nat) (w : World) (h : w.cell? ⟨a, 2, none⟩ = some (.pointer none)) :
    Calls Try.prog 15 #[.pointer (some ⟨a, 0, none⟩)] w fun e w' => e = .returned (.int .i64 0) ∧ w = w' := by
  go_enter Try.func15, Try.ntmps15
  go_wp2_with fail
  refine (made_bare a _ h).mono ?_
  rintro e w' ⟨rfl, rfl⟩
  go_wp2_with fail
  go_ret
  exact ⟨rfl, rfl⟩

/-! ### Print -/
theorem print_none (v : Value) (w : World) :
    Calls Try.prog 13 #[.pointer none, v] w fun e w' => e = .returned (.tuple #[.int .u64 0, .int .i64 1]) ∧ w = w' := by
  go_enter Try.func13, Try.ntmps13
  go_wp2_with fail
  refine (made_none _).mono ?_
  rintro e w' ⟨rfl, rfl⟩
  go_wp2_with fail
  go_ret2
  exact ⟨rfl, rfl⟩
theorem print_bare (a : Nat) (v : Value) (w : World) (h : w.cell? ⟨a, 2, none⟩ = some (.pointer none)) :
    Calls Try.prog 13 #[.pointer (some ⟨a, 0, none⟩), v] w fun e w' => e = .returned (.tuple #[.int .u64 0, .int .i64 1]) ∧ w = w' := by
  go_enter Try.func13, Try.ntmps13
  go_wp2_with fail
  refine (made_bare a _ h).mono ?_
  rintro e w' ⟨rfl, rfl⟩
  go_wp2_with fail
  go_ret2
  exact ⟨rfl, rfl⟩
/-- What Print answers: the fingerprint, the error. -/
def pout (ps : List Pr) (rest : UInt64) (x : List UInt8) : UInt64 × Int := if x.length = 128 then (printOf ps rest x, 0) else (0, 2)
set_option maxRecDepth 100000 in
theorem print_no {w : World} {a b : Nat} {ps : List Pr} {rest : UInt64} (h : Tab w a b ps rest) (A : Option Addr) (n c : Nat) (hn : n ≠ 128) :
    Calls Try.prog 13 #[.pointer (some ⟨a, 0, none⟩), .slice A n c] w fun e w' => e = .returned (.tuple #[.int .u64 0, .int .i64 2]) ∧ Below w.heap.size w w' := by
  have c2 := h.c2
  have hz := zero_block'
  clear h
  go_enter Try.func13, Try.ntmps13
  go_wp2_with fail
  refine (made_self a _ c2).mono ?_
  rintro e w' ⟨rfl, rfl⟩
  go_upto_region 3 with (fail)
  go_wp2_with fail
  refine (blockOf_no A n c hn w).mono ?_
  rintro e w1 ⟨rfl, B1⟩
  have R2 := alloc_rowV w1 51 (vals zeros)
  have B2 := B1.alloc B1.size (.cells (vals zeros).toArray 51)
  have HR := Lib.hid R2
  have HB := Lib.hid (B2.trans (setRow_below _ w1.heap.size (vals zeros).toArray B1.size))
  clear R2 B2 B1 c2
  go_wp2_with (refine wpList_store_row rfl 51 (.tmp 6) (.tmp 16) rfl w1.heap.size (vals zeros).toArray rfl rfl _ _ HR.out (size_bvals (by decide)) (by simp [length_vals, zeros]) (one_bvals _) ?_)
  go_ret2
  exact ⟨rfl, HB.out⟩
set_option maxRecDepth 100000 in
set_option maxHeartbeats 1000000 in
theorem print_yes {w : World} {a b : Nat} {ps : List Pr} {rest : UInt64} (h : Tab w a b ps rest) (A : Option Addr) (c : Nat) (x : List UInt8) (hx : x.length = 128) (hT : Oct.Told w A x) :
    Calls Try.prog 13 #[.pointer (some ⟨a, 0, none⟩), .slice A 128 c] w fun e w' => e = .returned (.tuple #[.int .u64 ((printOf ps rest x).toNat : Int), .int .i64 0]) ∧ Below w.heap.size w w' := by
  have c2 := h.c2
  have hz := zero_block'
  have HH := Lib.hid h
  clear h
  go_enter Try.func13, Try.ntmps13
  go_wp2_with fail
  refine (made_self a _ c2).mono ?_
  rintro e w' ⟨rfl, rfl⟩
  go_upto_region 3 with (fail)
  go_wp2_with fail
  refine (blockOf_yes A c x hx w hT).mono ?_
  rintro e w1 ⟨rfl, B1⟩
  have R2 := alloc_rowV w1 51 (vals zeros)
  have B2 := B1.alloc B1.size (.cells (vals zeros).toArray 51)
  have HR := Lib.hid R2
  have HB := Lib.hid (B2.trans (setRow_below _ w1.heap.size (vals x).toArray B1.size))
  have hs := B1.size
  clear B2 B1 c2 hT
  go_upto_region 6 with (refine wpList_store_row rfl 51 (.tmp 6) (.tmp 16) rfl w1.heap.size (vals x).toArray rfl rfl _ _ HR.out (size_bvals hx) (by simp [length_vals, hx, zeros]) (one_bvals _) ?_)
  have R3 := R2.setRow (vals x)
  have H3 := HH.out.kept HB.out
  clear R2 HR
  generalize (w1.alloc (.cells (vals zeros).toArray 51)).setRow w1.heap.size (vals x).toArray = w3 at *
  have hld : ∀ w', (∃ n, w' = w3.drewN n) → (Instr.loadAt 51 (.pointer (some ⟨w1.heap.size, 0, none⟩))).run Try.prog w' = .ok (.agg (vals x).toArray) w' := by
    rintro w' ⟨n, rfl⟩
    exact load_block (show RowV (w3.drewN n) w1.heap.size _ _ from R3) hx
  have hlk : ∀ n, (Instr.lookup 45 (.map (some b)) (.agg (vals x).toArray) true).run Try.prog (w3.drewN n) = .ok (.tuple #[.int .u64 (((seek ps x).getD 0).toNat : Int), .bool (isIn ps x)]) (w3.drewN n) :=
    fun n => (H3.mp.at (w' := w3.drewN n) rfl).look x hx
  have c0 := H3.c0
  have c1 := H3.c1
  have HLD := Lib.hid hld
  have HB3 := fun n => Lib.hid (HB.out.trans ((Still.drewN w3 n).below w.heap.size))
  clear R3 H3 hz hld
  rcases hsk : seek ps x with _ | v
  · have hin : isIn ps x = false := by rw [← seek_some, hsk]; rfl
    have HPO := Lib.hid (show printOf ps rest x = rest by unfold printOf; rw [hsk]; rfl)
    simp only [hsk, hin, Option.getD_none] at hlk
    clear hsk hin
    refine wp_region_quiet_lit (by kernel_rfl) (by kernel_rfl) ?_
    repeat (first | (refine quiet_load 51 (.tmp 6) (.agg (vals x).toArray) _ (by kernel_rfl) rfl rfl HLD.out ?_; go_frame) | go_big_quiet_step (fail))
    refine wpQuiet_nil ?_
    rintro _ ⟨nq, rfl⟩
    go_wp2_with fail
    go_ret2
    rw [HPO.out]
    exact ⟨rfl, (HB3 nq).out⟩
  · have hin : isIn ps x = true := by rw [← seek_some, hsk]; rfl
    have HPO := Lib.hid (show printOf ps rest x = v by unfold printOf; rw [hsk]; rfl)
    simp only [hsk, hin, Option.getD_some] at hlk
    clear hsk hin
    refine wp_region_quiet_lit (by kernel_rfl) (by kernel_rfl) ?_
    repeat (first | (refine quiet_load 51 (.tmp 6) (.agg (vals x).toArray) _ (by kernel_rfl) rfl rfl HLD.out ?_; go_frame) | go_big_quiet_step (fail))
    refine wpQuiet_nil ?_
    rintro _ ⟨nq, rfl⟩
    go_wp2_with fail
    go_ret2
    rw [HPO.out]
    exact ⟨rfl, (HB3 nq).out⟩
/-- Print of a table, in one. -/
theorem print_tab {w : World} {a b : Nat} {ps : List Pr} {rest : UInt64} (h : Tab w a b ps rest) (A : Option Addr) (n c : Nat) (x : List UInt8) (hx : x.length = n) (hT : Oct.Told w A x) :
    Calls Try.prog 13 #[.pointer (some ⟨a, 0, none⟩), .slice A n c] w fun e w' => e = .returned (.tuple #[.int .u64 ((pout ps rest x).1.toNat : Int), .int .i64 (pout ps rest x).2]) ∧ Below w.heap.size w w' := by
  subst hx
  unfold pout
  by_cases h1 : x.length = 128
  · rw [if_pos h1]
    have := print_yes h A c x h1 hT
    rwa [h1]
  · rw [if_neg h1]
    exact print_no h A _ c h1
end Go.Proofs.Ytbhajmecaemafaa.Tb
