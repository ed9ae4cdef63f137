/- Contract: the verifier's Filled; the chapter's examples as supers. -/
import Derived.Test.YtkhimoclikhlaaaSuI
import Derived.Test.YtkhimoclikhlaaaSuH
namespace Go.Proofs.Ytkhimoclikhlaaa.Su
open Go.RowKit Go.Shelf Go.Proofs.Ytkhimoclikhlaaa.Oct Go.Proofs.Ytkhimoclikhlaaa.Sf
set_option linter.unusedVariables false
def FilledPost (w : World) (c : UInt8) (e : Ending) (w' : World) : Prop := ∃ g, e = .returned (.slice (some ⟨g, 0, none⟩) 128 128) ∧ w.heap.size ≤ g ∧ Row w' g (List.replicate 128 c) ∧ Below w.heap.size w w'
def filledTo (c : UInt8) (k : Nat) : List UInt8 := List.replicate k c ++ List.replicate (128 - k) 0
theorem filledTo_set (c : UInt8) (k : Nat) (h : k < 128) : (filledTo c k).set k c = filledTo c (k + 1) := by
  unfold filledTo
  rw [List.set_append_right (h := by simp), List.length_replicate, Nat.sub_self, show 128 - k = (128 - (k + 1)) + 1 by omega, List.replicate_succ, List.set_cons_zero]
  rw [List.replicate_succ' (n := k), List.append_assoc]
  rfl
theorem length_filledTo (c : UInt8) (k : Nat) (h : k ≤ 128) : (filledTo c k).length = 128 := by simp [filledTo]; omega
theorem filledTo_end (c : UInt8) : filledTo c 128 = List.replicate 128 c := by
  unfold filledTo
  rw [Nat.sub_self, List.replicate_zero, List.append_nil]
set_option maxRecDepth 100000 in
set_option maxHeartbeats 800000 in
theorem filled_any (z : Int) (c : UInt8) (hz : z = (c.toNat : Int)) (w : World) : Calls Try.prog 24 #[.int .u8 z] w (FilledPost w c) := by
  subst hz
  have hmk : (Instr.makeSlice 28 (.int .i64 128) (.int .i64 128)).run Try.prog w = .ok (.slice (some ⟨w.heap.size, 0, none⟩) 128 128) (w.alloc (.cells (vals (List.replicate 128 0)).toArray 5)) := run_make_bytes w 128 (by omega)
  have R1 : Row (w.alloc (.cells (vals (List.replicate 128 0)).toArray 5)) w.heap.size (filledTo c 0) := alloc_row w (List.replicate 128 0)
  have B1 := (Below.refl w.heap.size w).alloc (Nat.le_refl _) (.cells (vals (List.replicate 128 0)).toArray 5)
  generalize w.alloc (.cells (vals (List.replicate 128 0)).toArray 5) = w1 at hmk R1 B1
  obtain ⟨g, hg⟩ : ∃ g, g = w.heap.size := ⟨_, rfl⟩
  rw [← hg] at hmk R1
  have HG := Lib.hid hg
  have HR := Lib.hid R1
  have HB := Lib.hid B1
  clear hg R1 B1
  go_enter Try.func24, Try.ntmps24
  go_wp2_with fail
  clear hmk
  go_loopw [4] (fun i wr => ∃ k : Nat, k ≤ 128 ∧ i = .int .i64 (k : Int) ∧ Hid (Row wr g (filledTo c k)) ∧ Below w.heap.size w wr) (fun i _ => 128 - (intOf i).toNat)
  case atStart => exact ⟨0, Nat.zero_le _, rfl, HR, HB.out⟩
  case round =>
    obtain ⟨k, hk, rfl, hR, hB⟩ := hrel
    have HB3 := Lib.hid hB
    clear hB
    by_cases hlt : k < 128
    · have hki : (k : Int) < 128 := by omega
      have hc := hR.out.has k (by rw [length_filledTo c k hk]; exact hlt)
      rw [Nat.zero_add] at hc
      have hf : wr.frozen? ⟨g, k, none⟩ = false := frozen_of_row wr g k _ _ hR.out
      have hs := hR.out.set k c
      rw [filledTo_set c k hlt] at hs
      have HS := Lib.hid hs
      have HB2 := Lib.hid (HB3.out.setCell (p := ⟨g, k, none⟩) (by rw [HG.out]; exact Nat.le_refl _) (.int .u8 (c.toNat : Int)))
      generalize (filledTo c k)[k]'(by rw [length_filledTo c k hk]; exact hlt) = old at hc
      clear hs
      go_wp2
      go_roundw
      case rel => exact ⟨k + 1, by omega, by go_num, HS, HB2.out⟩
      case measure => simp [intOf]; omega
    · obtain rfl : k = 128 := by omega
      go_wp2
      go_ret
      have hr := hR.out
      rw [filledTo_end] at hr
      exact ⟨g, rfl, by rw [HG.out]; exact Nat.le_refl _, hr, HB3.out⟩

/-! ### The chapter's examples -/
def sup (l : List Nat) : Sup := l ++ List.replicate (18 - l.length) 0
def two : Sup := sup [2, 16]
def three : Sup := sup [3, 16]
def far : Sup := two.set 9 16
def bare : Sup := sup [0, 16]
def small : Sup := sup [1, 15]
theorem ok_all (s : Sup) (h : s.length = 18) (h1 : s.all (fun n => decide (n < 4294967296)) = true) : Ok s := by
  have key : ∀ j, nth s j < 4294967296 := fun j => by
    by_cases hj : j < s.length
    · have := (List.all_eq_true.1 h1) s[j] (List.getElem_mem hj)
      simpa [nth, hj] using this
    · rw [nth_over h j (by omega)]; decide
  exact ⟨h, fun j => Nat.lt_trans (key j) (by decide), fun j _ _ => key j⟩
theorem ok_two : Ok two := ok_all _ rfl rfl
theorem ok_three : Ok three := ok_all _ rfl rfl
theorem ok_far : Ok far := ok_all _ rfl rfl
theorem ok_bare : Ok bare := ok_all _ rfl rfl
theorem ok_small : Ok small := ok_all _ rfl rfl
theorem fit_two : Fit two := by decide
theorem fit_three : Fit three := by decide
theorem unfit_far : ¬ Fit far := by decide
theorem unfit_bare : ¬ Fit bare := by decide
theorem unfit_small : ¬ Fit small := by decide
theorem head_two : (supPage two).take 14 = [6, 0, 0, 0, 0, 0, 0, 0, 2, 0, 0, 0, 16, 0] := by decide
/-- A page of a right super counts in its own slot alone. -/
theorem counts_page {s : Sup} (h : Ok s) (hf : Fit s) (k : Nat) : Counts k (supPage s) ↔ nth s 0 % 2 = k := by
  unfold Counts
  rw [sIn_page h]
  exact ⟨fun q => q.2, fun q => ⟨holds_page h hf, q⟩⟩
theorem head_page (s : Sup) : (supPage s).head? = some 6 := rfl
theorem none_zeros (c : UInt8) (h : c ≠ 6) : ¬ Holds (List.replicate 128 c) := by
  rintro ⟨_, _, _, h4⟩
  have := congrArg List.head? h4
  rw [head_page] at this
  simp at this
  exact h this.symm
theorem pick_both {s t : Sup} (hs : Ok s) (ht : Ok t) (fs : Fit s) (ft : Fit t) (h0 : nth s 0 % 2 = 0) (h1 : nth t 0 % 2 = 1) (hlt : nth s 0 < nth t 0) :
    psup (supPage s) (supPage t) = t ∧ pslot (supPage s) (supPage t) = 1 ∧ perr (supPage s) (supPage t) = 0 := by
  have hl : Later (supPage s) (supPage t) := ⟨(counts_page ht ft 1).2 h1, fun q => by have := q.2; rw [sIn_page hs, sIn_page ht] at this; omega⟩
  unfold psup pslot perr
  rw [if_pos hl, if_pos hl, if_pos hl, sIn_page ht]
  exact ⟨rfl, rfl, rfl⟩
theorem pick_both' {s t : Sup} (hs : Ok s) (ht : Ok t) (fs : Fit s) (ft : Fit t) (h0 : nth s 0 % 2 = 0) (h1 : nth t 0 % 2 = 1) (hlt : nth t 0 < nth s 0) :
    psup (supPage s) (supPage t) = s ∧ pslot (supPage s) (supPage t) = 0 ∧ perr (supPage s) (supPage t) = 0 := by
  have hc := (counts_page hs fs 0).2 h0
  have hl : ¬ Later (supPage s) (supPage t) := fun q => q.2 ⟨hc, by rw [sIn_page hs, sIn_page ht]; exact hlt⟩
  unfold psup pslot perr
  rw [if_neg hl, if_neg hl, if_neg hl, if_pos hc, if_pos hc, sIn_page hs]
  exact ⟨rfl, rfl, rfl⟩
theorem pick_first {s : Sup} {b : List UInt8} (hs : Ok s) (fs : Fit s) (h0 : nth s 0 % 2 = 0) (hb : ¬ Counts 1 b) :
    psup (supPage s) b = s ∧ pslot (supPage s) b = 0 ∧ perr (supPage s) b = 0 := by
  have hc := (counts_page hs fs 0).2 h0
  have hl : ¬ Later (supPage s) b := fun q => hb q.1
  unfold psup pslot perr
  rw [if_neg hl, if_neg hl, if_neg hl, if_pos hc, if_pos hc, sIn_page hs]
  exact ⟨rfl, rfl, rfl⟩
theorem pick_second {t : Sup} {a : List UInt8} (ht : Ok t) (ft : Fit t) (h1 : nth t 0 % 2 = 1) (ha : ¬ Counts 0 a) :
    psup a (supPage t) = t ∧ pslot a (supPage t) = 1 ∧ perr a (supPage t) = 0 := by
  have hl : Later a (supPage t) := ⟨(counts_page ht ft 1).2 h1, fun q => ha q.1⟩
  unfold psup pslot perr
  rw [if_pos hl, if_pos hl, if_pos hl, sIn_page ht]
  exact ⟨rfl, rfl, rfl⟩
theorem pick_none {a b : List UInt8} (ha : ¬ Counts 0 a) (hb : ¬ Counts 1 b) : psup a b = zero18 ∧ pslot a b = 0 ∧ perr a b = 60 := by
  have hl : ¬ Later a b := fun q => hb q.1
  unfold psup pslot perr
  rw [if_neg hl, if_neg hl, if_neg hl, if_neg ha, if_neg ha]
  exact ⟨rfl, rfl, rfl⟩
theorem pick_bts {A B : Option Addr} {n c m d : Nat} {a b : List UInt8} {w : World} (h1 : Bts w A n c a) (h2 : Bts w B m d b) {s : Sup} {i e : Int} (h : psup a b = s ∧ pslot a b = i ∧ perr a b = e) :
    Calls Try.prog 16 #[.slice A n c, .slice B m d] w fun x w' => x = .returned (.tuple #[.agg (scells s).toArray, .int .i64 i, .int .i64 e]) ∧ Below w.heap.size w w' := by
  obtain ⟨rfl, rfl, rfl⟩ := h
  exact pick_any h1 h2
/-- Encode, what it answers said for both. -/
theorem encode_bts (s : Sup) (hs : Ok s) (w : World) (hf : Fit s) :
    Calls Try.prog 12 #[.agg (scells s).toArray] w fun e w' => ∃ g, e = .returned (.tuple #[.slice (some ⟨g, 0, none⟩) 128 128, .int .i64 0]) ∧ Bts w' (some ⟨g, 0, none⟩) 128 128 (supPage s) ∧ Free w' g 0 128 ∧ w.heap.size ≤ g ∧ Below w.heap.size w w' := by
  refine (encode_yes s hs w hf).mono ?_
  rintro e w' ⟨g, rfl, F⟩
  refine ⟨g, rfl, Bts.page F.has (length_supPage s), ?_, F.lo, F.below⟩
  have := F.free
  rwa [show (page 6 (cbody (cont s))).length = 128 from length_supPage s] at this
theorem encode_none (s : Sup) (hs : Ok s) (w : World) (hf : ¬ Fit s) :
    Calls Try.prog 12 #[.agg (scells s).toArray] w fun e w' => e = .returned (.tuple #[.slice none 0 0, .int .i64 60]) ∧ Below w.heap.size w w' := encode_no s hs w hf
/-- Decode of a right super's page. -/
theorem decode_sup {A : Option Addr} {s : Sup} {w : World} (hs : Ok s) (hf : Fit s) (h : Bts w A 128 128 (supPage s)) :
    Calls Try.prog 14 #[.slice A 128 128] w fun e w' => e = .returned (.tuple #[.agg (scells s).toArray, .int .i64 0]) ∧ Below w.heap.size w w' := by
  have := decode_bts h
  rw [(dsup_page hs hf).1, (dsup_page hs hf).2] at this
  exact this
theorem decode_none {A : Option Addr} {n c : Nat} {ps : List UInt8} {w : World} (hn : ¬ Holds ps) (h : Bts w A n c ps) :
    Calls Try.prog 14 #[.slice A n c] w fun e w' => e = .returned (.tuple #[.agg (scells zero18).toArray, .int .i64 60]) ∧ Below w.heap.size w w' := by
  have := decode_bts h
  rw [(dsup_no hn).1, (dsup_no hn).2] at this
  exact this
theorem right_yes (s : Sup) (hs : Ok s) (hf : Fit s) (w : World) : Calls Try.prog 19 #[.agg (scells s).toArray] w fun e w' => e = .returned (.bool true) ∧ Below w.heap.size w w' := by
  have := right_any s hs w
  rw [decide_eq_true hf] at this
  exact this
theorem right_no (s : Sup) (hs : Ok s) (hf : ¬ Fit s) (w : World) : Calls Try.prog 19 #[.agg (scells s).toArray] w fun e w' => e = .returned (.bool false) ∧ Below w.heap.size w w' := by
  have := right_any s hs w
  rw [decide_eq_false hf] at this
  exact this
theorem wpList_load_row_g {P : Program} {ops : Array Oper} {rest : List Oper} {o : Oper} {a : Act} {w : World} {Q : Exit → Act → World → Prop} (hgd : Region.wanted o (yielded ops a.tmps) = true) (ty : TypeId) (x : Operand) (ho : o.op = .load ty x)
    (g : Nat) (hx : a.eval x = .pointer (some ⟨g, 0, none⟩)) (t : TypeId) (cs : Array Value) (fr : Nat × Nat) (d : TypeDesc) (hg : w.heap[g]? = some (.cells cs t fr))
    (hu : P.underlying ty = some d) (hd : (match d with | .struct _ | .array _ _ => true | _ => false) = true) (hi : (P.info? ty).map (·.size) = some cs.size)
    (h : wpList P ops Q rest (a.put o.dst (.agg cs)) w) : wpList P ops Q (o :: rest) a w :=
  wpList_step fun K hK => by rw [if_pos hgd]; exact wp_load_row ty x ho g hx t cs fr d hg hu hd hi (hK _ _ h)
theorem wp_eql_sup {o : Oper} {a : Act} {w : World} {K : Act → World → Prop} {Q : Exit → Act → World → Prop} (x y : Operand) (u : TypeId) (ho : o.op = .binOp .eql 27 x y u) (s t : Sup) (hs : Ok s) (ht : Ok t)
    (hx : a.eval x = .agg (scells s).toArray) (hy : a.eval y = .agg (scells t).toArray) (h : K (a.put o.dst (.bool (s == t))) w) : o.wp Try.prog a w K Q := by
  have h1 := run_eqGuard_agg (P := Try.prog) w .eql 27 x y (scells s).toArray (scells t).toArray (by kernel_rfl)
  have h2 := run_eql_sup s t hs ht w
  unfold Oper.wp
  simp only [execOp, ho, hx, hy, Sem.run_bind, h1, h2, Result.andThen_ok, Sem.run_pure]
  exact h
theorem wpList_eql_sup {ops : Array Oper} {rest : List Oper} {o : Oper} {a : Act} {w : World} {Q : Exit → Act → World → Prop} (hgd : Region.wanted o (yielded ops a.tmps) = true) (x y : Operand) (u : TypeId) (ho : o.op = .binOp .eql 27 x y u) (s t : Sup) (hs : Ok s) (ht : Ok t)
    (hx : a.eval x = .agg (scells s).toArray) (hy : a.eval y = .agg (scells t).toArray) (h : wpList Try.prog ops Q rest (a.put o.dst (.bool (s == t))) w) : wpList Try.prog ops Q (o :: rest) a w :=
  wpList_step fun K hK => by rw [if_pos hgd]; exact wp_eql_sup x y u ho s t hs ht hx hy (hK _ _ h)
theorem wp_neq_sup {o : Oper} {a : Act} {w : World} {K : Act → World → Prop} {Q : Exit → Act → World → Prop} (x y : Operand) (u : TypeId) (ho : o.op = .binOp .neq 27 x y u) (s t : Sup) (hs : Ok s) (ht : Ok t)
    (hx : a.eval x = .agg (scells s).toArray) (hy : a.eval y = .agg (scells t).toArray) (h : K (a.put o.dst (.bool (!(s == t)))) w) : o.wp Try.prog a w K Q := by
  have h1 := run_eqGuard_agg (P := Try.prog) w .neq 27 x y (scells s).toArray (scells t).toArray (by kernel_rfl)
  have h2 := run_neq_sup s t hs ht w
  unfold Oper.wp
  simp only [execOp, ho, hx, hy, Sem.run_bind, h1, h2, Result.andThen_ok, Sem.run_pure]
  exact h
theorem wpList_neq_sup {ops : Array Oper} {rest : List Oper} {o : Oper} {a : Act} {w : World} {Q : Exit → Act → World → Prop} (hgd : Region.wanted o (yielded ops a.tmps) = true) (x y : Operand) (u : TypeId) (ho : o.op = .binOp .neq 27 x y u) (s t : Sup) (hs : Ok s) (ht : Ok t)
    (hx : a.eval x = .agg (scells s).toArray) (hy : a.eval y = .agg (scells t).toArray) (h : wpList Try.prog ops Q rest (a.put o.dst (.bool (!(s == t)))) w) : wpList Try.prog ops Q (o :: rest) a w :=
  wpList_step fun K hK => by rw [if_pos hgd]; exact wp_neq_sup x y u ho s t hs ht hx hy (hK _ _ h)
end Go.Proofs.Ytkhimoclikhlaaa.Su
