/- LeafOrder: mathematics; appends of many numbers; two rows that grow side by side. -/
import Derived.Test.YtngigpciipdogaaLfI
import Derived.Deep.RegionLaw
import Derived.Deep.AppendLies
namespace Go.Proofs.Ytngigpciipdogaa.Lf
open Go.RowKit Go.Proofs.Ytngigpciipdogaa.Oct
set_option linter.unusedVariables false

/-! ### One place less; two places exchanged -/
theorem less_sub {T : Type} (xs : List T) (i : Nat) : (xs.take i ++ xs.drop (i + 1)).Sublist xs := by
  have h := List.sublist_append_right [] (xs.drop i)
  conv => rhs; rw [← List.take_append_drop i xs]
  refine List.Sublist.append (List.Sublist.refl _) ?_
  rw [← List.drop_drop]
  exact List.drop_sublist _ _
theorem less_len {T : Type} (xs : List T) (i : Nat) (hi : i < xs.length) : (xs.take i ++ xs.drop (i + 1)).length = xs.length - 1 := by
  simp; omega
theorem fit_less {l : Bool} {ks vs : List UInt64} (h : Fit l ks vs) (i : Nat) (hi : i < ks.length) :
    decide (Fit l (ks.take i ++ ks.drop (i + 1)) (vs.take i ++ vs.drop (i + 1))) = (l || decide (1 < ks.length)) := by
  obtain ⟨h1, h2, h3, h4⟩ := h
  have lk := less_len ks i hi
  have lv := less_len vs i (by omega)
  have hr : Rises (ks.take i ++ ks.drop (i + 1)) := List.Pairwise.sublist (less_sub ks i) h3
  cases l with
  | true =>
    rw [decide_eq_true (fit_leaf (by omega) (by omega) hr)]
    rfl
  | false =>
    rcases h4 with h4 | ⟨h4, hk⟩
    · cases h4
    by_cases hn : 1 < ks.length
    · rw [decide_eq_true hn, decide_eq_true]
      · rfl
      · exact ⟨by omega, by omega, hr, .inr ⟨by omega, fun v hv => hk.1 v ((less_sub vs i).subset hv), List.Pairwise.sublist (less_sub vs i) hk.2⟩⟩
    · rw [decide_eq_false hn, decide_eq_false (fit_bare (by omega))]
      rfl
theorem rises_at {ks : List UInt64} (h : Rises ks) {i k : Nat} (hik : i < k) (hk : k < ks.length) : (ks[i]'(by omega)).toNat < (ks[k]'hk).toNat := by
  unfold Rises at h
  rw [List.pairwise_iff_getElem] at h
  exact h i k (by omega) hk hik
theorem turned_not {ks : List UInt64} (h : Rises ks) {i k : Nat} (hi : i < ks.length) (hk : k < ks.length) (hne : i ≠ k) : ¬ Rises ((ks.set i ks[k]).set k ks[i]) := by
  intro hr
  have hl : ((ks.set i ks[k]).set k ks[i]).length = ks.length := by simp
  rcases Nat.lt_or_gt_of_ne hne with h1 | h1
  · have a := rises_at h h1 hk
    have b := rises_at hr h1 (by rw [hl]; exact hk)
    simp [Ne.symm hne] at b
    omega
  · have a := rises_at h h1 hi
    have b := rises_at hr h1 (by rw [hl]; exact hi)
    simp [Ne.symm hne] at b
    omega
theorem turned_unfit {l : Bool} {ks vs : List UInt64} (h : Fit l ks vs) {i k : Nat} (hi : i < ks.length) (hk : k < ks.length) (hne : i ≠ k) : decide (Fit l ((ks.set i ks[k]).set k ks[i]) vs) = false :=
  decide_eq_false fun hf => turned_not h.2.2.1 hi hk hne hf.2.2.1

/-! ### Parts of a slice of numbers -/
theorem num_size (w : World) : (Go.sizeOf 28).run Try.prog w = .ok 1 w := by kernel_rfl
theorem run_nums_head (w : World) (A : Option Addr) (n c k : Nat) (hk : k ≤ n) (hc : n ≤ c) (hm : c ≤ maxLen) :
    (Instr.slice 22 (.slice A n c) none (some (.int .i64 (k : Int))) none).run Try.prog w = .ok (.slice A k c) w := by
  unfold maxLen at hm
  have ht : Try.prog.underlying 22 = some (.slice (Try.prog.elem 22)) := by simp [Program.elem, Try.underlying22]
  have he : Try.prog.elem 22 = 28 := by simp [Program.elem, Try.underlying22]
  rw [run_slice_h w 22 A n c ht .i64 (k : Int) (by omega) (by omega), he, num_size]
  cases A <;> simp [Result.andThen, sliced, Addr.add]
theorem run_nums_tail (b o n c k : Nat) (ns : List UInt64) (hl : ns.length = n) (hk : k ≤ n) (hc : n ≤ c) (hm : c ≤ maxLen) :
    ∃ x : Addr, (∀ w, (Instr.slice 22 (.slice (some ⟨b, o, none⟩) n c) (some (.int .i64 (k : Int))) none none).run Try.prog w = .ok (.slice (some x) (n - k) (c - k)) w) ∧
      (∀ w, HasN w b o ns → ToldN w (some x) (ns.drop k)) := by
  unfold maxLen at hm
  have ht : Try.prog.underlying 22 = some (.slice (Try.prog.elem 22)) := by simp [Program.elem, Try.underlying22]
  have he : Try.prog.elem 22 = 28 := by simp [Program.elem, Try.underlying22]
  refine ⟨if c = k then ⟨b, o, none⟩ else ⟨b, o + k, none⟩, fun w => ?_, fun w hw => ?_⟩
  · rw [run_slice_l w 22 _ n c ht .i64 (k : Int) (by omega) (by omega), he, num_size]
    by_cases hck : c = k
    · simp [Result.andThen, sliced, hck]
    · simp [Result.andThen, sliced, hck, add_plain]
  · by_cases hck : c = k
    · left
      exact List.drop_of_length_le (by omega)
    · rw [if_neg hck]
      refine .inr ⟨b, o + k, rfl, ?_⟩
      have := hw.cut k ns.length
      rwa [List.take_of_length_le (by simp)] at this

/-! ### Appends -/
def OwnN (w : World) (base : Nat) (v : Value) (ns : List UInt64) : Prop := w.ownsRow base 28 1 v ns.length (nvals ns)
theorem OwnN.same {w w' : World} {base : Nat} {v : Value} {ns : List UInt64} (h : OwnN w base v ns) (hk : ∀ k, v.ownBlock = some k → k < w.heap.size → w'.heap[k]? = w.heap[k]?) : OwnN w' base v ns := by
  refine ⟨h.1, ?_⟩
  rcases h.2 with hn | ⟨g, cap, cur, rfl, hb, hgg, rest⟩
  · exact .inl hn
  · refine .inr ⟨g, cap, cur, rfl, hb, ?_, rest⟩
    rw [hk g rfl (Array.getElem?_eq_some_iff.1 hgg).1]
    exact hgg
theorem OwnN.slice {w : World} {base : Nat} {v : Value} {ns : List UInt64} (h : OwnN w base v ns) : ∃ a cap, v = .slice a ns.length cap ∧ ToldN w a ns ∧ ns.length ≤ cap ∧ cap ≤ maxLen := by
  rcases h.2 with ⟨rfl, h0⟩ | ⟨g, cap, cur, rfl, hb, hg, hn, hm, hs, ht⟩
  · have : ns = [] := List.eq_nil_of_length_eq_zero h0
    subst this
    exact ⟨none, 0, rfl, .inl rfl, Nat.le_refl _, Nat.zero_le _⟩
  · have hh : HasN w g 0 ns := fun i hi => by
      rw [Nat.zero_add]
      have := World.ownsRow.cellAt h i (by omega)
      rw [this]
      simp [nvals, hi]
    exact ⟨_, cap, rfl, hh.told, hn, hm⟩
theorem OwnN.row {w : World} {g base : Nat} {ns : List UInt64} (h : RowN w g 28 ns) (hb : base ≤ g) (hn : ns.length ≤ 1000) : OwnN w base (.slice (some ⟨g, 0, none⟩) ns.length ns.length) ns :=
  ⟨by simp [length_nvals], .inr ⟨g, ns.length, (nvals ns).toArray, rfl, hb, h, Nat.le_refl _, by unfold maxLen; omega, by simp [length_nvals], by simp; exact List.take_of_length_le (Nat.le_of_eq (length_nvals ns))⟩⟩
theorem nums_info : (Try.prog.info? 28).map (fun i => (i.zero, i.size, i.bytes)) = some (some (.int .u64 0), 1, 8) := by kernel_rfl
theorem run_append_nums (w : World) (ty : TypeId) (base : Nat) (v : Value) (xs ys : List UInt64) (hown : OwnN w base v xs) (x : Addr) (m c : Nat) (hl : ys.length = m) (hT : ToldN w (some x) ys) (hsz : xs.length + m ≤ 1000000) (hbase : base ≤ w.heap.size) :
    ∃ v' w', (Builtin.append_ #[22, 22] ty #[v, .slice (some x) m c]).run Try.prog w = .ok v' w' ∧ OwnN w' base v' (xs ++ ys) ∧ w.grownBy w' v.ownBlock ∧ (v'.ownBlock = v.ownBlock ∨ v'.ownBlock = some w.heap.size) := by
  obtain ⟨i0, hi, hz0, hz1, hz2⟩ := info_parts nums_info
  have hnews : ∀ j u, (nvals ys)[j]? = some u → w.cell? (x.add j) = some u := fun j u hj => by
    rcases hT with h | ⟨b, o, h, k⟩
    · rw [h] at hj; simp [nvals] at hj
    · cases h
      rw [add_plain]
      have hjl : j < ys.length := by
        rcases Nat.lt_or_ge j ys.length with h | h
        · exact h
        · rw [List.getElem?_eq_none (by rw [length_nvals]; exact h)] at hj; cases hj
      have hv : u = .int .u64 (ys[j].toNat : Int) := by simpa [nvals, hjl] using hj.symm
      rw [hv]
      exact k j hjl
  obtain ⟨v', w', hr, ho, hg, _, hw⟩ := run_append_own_at (P := Try.prog) w base 22 ty 28 i0 (.int .u64 0) 1 8 Try.underlying22 hi hz0 hz1 hz2 rfl (by omega) v xs.length (nvals xs) hown x m c (nvals ys)
    (by rw [length_nvals, hl, Nat.mul_one]) hnews (fun u hu => by simp [nvals] at hu; obtain ⟨c, _, rfl⟩ := hu; rfl) (by unfold maxLen; omega) (by omega) hbase
  refine ⟨v', w', hr, ?_, hg, hw⟩
  unfold OwnN
  rw [List.length_append, hl, show nvals (xs ++ ys) = nvals xs ++ nvals ys by simp [nvals]]
  exact ho
theorem step_nums {ops : Array Oper} {o : Oper} {a : Act} {w : World} {K : Act → World → Prop} {Q : Exit → Act → World → Prop} {E : Prop} (hgd : o.guard = none) (s x : Operand)
    (ho : o.op = .call { callee := .builtin .append, args := #[s, x], argTypes := #[22, 22] }) {base m c : Nat} {v0 : Value} {A : Addr} {xs ys : List UInt64} (hs : a.eval s = v0) (hx : a.eval x = .slice (some A) m c)
    (N : Nat) (zs : List UInt64) (hz : xs ++ ys = zs) (hN : zs.length = N) (hl : ys.length = m) (h0 : OwnN w base v0 xs) (h2 : ToldN w (some A) ys) (hb : xs.length + m ≤ 1000000) (hbase : base ≤ w.heap.size)
    (h : ∀ A' c' w', OwnN w' base (.slice A' N c') zs → w.grownBy w' v0.ownBlock → ((Value.slice A' N c').ownBlock = v0.ownBlock ∨ (Value.slice A' N c').ownBlock = some w.heap.size) → K (a.put o.dst (.slice A' N c')) w') : if Region.wanted o (yielded ops a.tmps) = true then Oper.wp Try.prog o a w K Q else E := by
  have hw : Region.wanted o (yielded ops a.tmps) = true := by simp [Region.wanted, hgd]
  rw [if_pos hw]
  obtain ⟨v', w', hrun, ho', hg', hl'⟩ := run_append_nums w o.type base v0 xs ys h0 A m c hl h2 hb hbase
  rw [hz] at ho'
  obtain ⟨A', c', rfl, _⟩ := ho'.slice
  rw [hN] at hrun ho' hl'
  unfold Oper.wp
  simp [execOp, ho, resolve, invoke, builtin, hs, hx, hrun, Result.andThen]
  exact h _ _ _ ho' hg' hl'

/-! ### A node built in a region that draws -/
/-- A node in a variable of its own. -/
structure Var (w : World) (p : Nat) (l : Bool) (A : Option Addr) (n c : Nat) (B : Option Addr) (m d : Nat) : Prop where
  a0 : w.cell? ⟨p, 0, none⟩ = some (.bool l)
  a1 : w.cell? ⟨p, 1, none⟩ = some (.slice A n c)
  a2 : w.cell? ⟨p, 2, none⟩ = some (.slice B m d)
  lt : p < w.heap.size
theorem var_new (w : World) (l : Bool) (A : Option Addr) (n c : Nat) (B : Option Addr) (m d : Nat) : Var (w.alloc (.cells #[.bool l, .slice A n c, .slice B m d] 24)) w.heap.size l A n c B m d := ⟨by simp, by simp, by simp, by simp⟩
theorem Var.below {w w' : World} {p B0 : Nat} {l : Bool} {A : Option Addr} {n c : Nat} {B : Option Addr} {m d : Nat} (h : Var w p l A n c B m d) (k : Below B0 w w') (hp : p < B0) : Var w' p l A n c B m d :=
  ⟨(k.cell (p := ⟨p, 0, none⟩) hp).trans h.a0, (k.cell (p := ⟨p, 1, none⟩) hp).trans h.a1, (k.cell (p := ⟨p, 2, none⟩) hp).trans h.a2, Nat.lt_of_lt_of_le h.lt k.size⟩
structure Made2 (w4 W : World) (a gk gv : Nat) (l : Bool) (n m : Nat) (ks vs : List UInt64) : Prop where
  n0 : W.cell? ⟨a, 0, none⟩ = some (.bool l)
  n1 : W.cell? ⟨a, 1, none⟩ = some (.slice (some ⟨gk, 0, none⟩) n n)
  n2 : W.cell? ⟨a, 2, none⟩ = some (.slice (some ⟨gv, 0, none⟩) m m)
  below : Below w4.heap.size w4 W
  rk : RowN W gk 28 ks
  rv : RowN W gv 28 vs
theorem made2_alloc {w4 wk wv : World} {gk gv n m : Nat} {ks vs : List UInt64} (l : Bool) (FK : FreshN w4.drew wk gk ks) (FV : FreshN wk wv gv vs) (BV : Below w4.heap.size w4 wv) :
    Made2 w4 (wv.alloc (.cells #[.bool l, .slice (some ⟨gk, 0, none⟩) n n, .slice (some ⟨gv, 0, none⟩) m m] 24)) wv.heap.size gk gv l n m ks vs := by
  have b := (Below.refl wv.heap.size wv).alloc (Nat.le_refl _) (.cells #[.bool l, .slice (some ⟨gk, 0, none⟩) n n, .slice (some ⟨gv, 0, none⟩) m m] 24)
  have rk := FK.row.below FK.hi FV.below
  exact ⟨box_cell wv _ _ 0 _ rfl, box_cell wv _ _ 1 _ rfl, box_cell wv _ _ 2 _ rfl, BV.trans (b.mono BV.size), rk.below rk.lt b, FV.row.below FV.hi b⟩
theorem made2_set {w4 W1 W2 wk wv : World} {a gk gv n m : Nat} {ks vs : List UInt64} (l : Bool) (FK : FreshN W1 wk gk ks) (FV : FreshN W2 wv gv vs) (h2 : Below wk.heap.size wk W2) (BV : Below w4.heap.size w4 wv) (Z : Res wv a) (ha : w4.heap.size ≤ a) (hk : a ≠ gk) (hv : a ≠ gv) :
    Made2 w4 (((wv.setCell ⟨a, 0, none⟩ (.bool l)).setCell ⟨a, 1, none⟩ (.slice (some ⟨gk, 0, none⟩) n n)).setCell ⟨a, 2, none⟩ (.slice (some ⟨gv, 0, none⟩) m m)) a gk gv l n m ks vs := by
  have rk := (FK.row.below FK.hi h2).below (Nat.lt_of_lt_of_le FK.hi h2.size) FV.below
  refine ⟨?_, ?_, ?_, ((BV.setCell (p := ⟨a, 0, none⟩) ha _).setCell (p := ⟨a, 1, none⟩) ha _).setCell (p := ⟨a, 2, none⟩) ha _, ((rk.other (fun e => hk e.symm)).other (fun e => hk e.symm)).other (fun e => hk e.symm), ((FV.row.other (fun e => hv e.symm)).other (fun e => hv e.symm)).other (fun e => hv e.symm)⟩
  · rw [set_other (by omega), set_other (by omega), set_same Z.c0]
  · rw [set_other (by omega)]
    exact set_same ((set_other (by omega)).trans Z.c1)
  · exact set_same (((set_other (by omega)).trans (set_other (by omega))).trans Z.c2)


/-! ### Two rows that grow side by side, apart from block a -/
structure Pair (w0 w : World) (a base : Nat) (vK vV : Value) (kn vn : List UInt64) : Prop where
  ok : OwnN w base vK kn
  ov : OwnN w base vV vn
  ne : ∀ k, vK.ownBlock = some k → vV.ownBlock ≠ some k
  ak : vK.ownBlock ≠ some a
  av : vV.ownBlock ≠ some a
  lt : a < w.heap.size
  ba : base ≤ a
  bw : Below base w0 w
theorem grown_below {w w' : World} {base : Nat} {v : Value} {xs : List UInt64} (h : OwnN w base v xs) (hg : w.grownBy w' v.ownBlock) (hb : base ≤ w.heap.size) : Below base w w' :=
  ⟨hg.os, hg.tape, hg.output, hg.size, fun k hk => hg.block k (by omega) (fun e => by have := (World.ownsRow.lt h k e.symm).1; omega)⟩
theorem Pair.still {w0 w w' : World} {a base : Nat} {vK vV : Value} {kn vn : List UInt64} (h : Pair w0 w a base vK vV kn vn) (S : Still w w') : Pair w0 w' a base vK vV kn vn :=
  ⟨h.ok.same fun k _ _ => by rw [S.heap], h.ov.same fun k _ _ => by rw [S.heap], h.ne, h.ak, h.av, by rw [S.heap]; exact h.lt, h.ba, h.bw.trans (S.below _)⟩
theorem Pair.pushK {w0 w w' : World} {a base : Nat} {vK vV v' : Value} {kn vn zs : List UInt64} (h : Pair w0 w a base vK vV kn vn) (ho : OwnN w' base v' zs) (hg : w.grownBy w' vK.ownBlock) (hl : v'.ownBlock = vK.ownBlock ∨ v'.ownBlock = some w.heap.size) :
    Pair w0 w' a base v' vV zs vn := by
  have hlt := h.lt
  have hba := h.ba
  refine ⟨ho, h.ov.same fun k e hk => hg.block k hk (fun e2 => h.ne k e2.symm e), ?_, ?_, h.av, Nat.lt_of_lt_of_le h.lt hg.size, h.ba, h.bw.trans (grown_below h.ok hg (by omega))⟩
  · intro k e e2
    have hkl := (World.ownsRow.lt h.ov k e2).2
    rcases hl with hl | hl
    · exact h.ne k (by rw [← hl]; exact e) e2
    · rw [hl] at e; cases e; omega
  · rcases hl with hl | hl
    · rw [hl]; exact h.ak
    · rw [hl]; intro e; cases e; omega
theorem Pair.pushV {w0 w w' : World} {a base : Nat} {vK vV v' : Value} {kn vn zs : List UInt64} (h : Pair w0 w a base vK vV kn vn) (ho : OwnN w' base v' zs) (hg : w.grownBy w' vV.ownBlock) (hl : v'.ownBlock = vV.ownBlock ∨ v'.ownBlock = some w.heap.size) :
    Pair w0 w' a base vK v' kn zs := by
  have hlt := h.lt
  have hba := h.ba
  refine ⟨h.ok.same fun k e hk => hg.block k hk (fun e2 => h.ne k e e2.symm), ho, ?_, h.ak, ?_, Nat.lt_of_lt_of_le h.lt hg.size, h.ba, h.bw.trans (grown_below h.ov hg (by omega))⟩
  · intro k e e2
    have hkl := (World.ownsRow.lt h.ok k e).2
    rcases hl with hl | hl
    · exact h.ne k e (by rw [← hl]; exact e2)
    · rw [hl] at e2; cases e2; omega
  · rcases hl with hl | hl
    · rw [hl]; exact h.av
    · rw [hl]; intro e; cases e; omega
theorem Pair.store {w0 w : World} {a base : Nat} {vK vV : Value} {kn vn : List UInt64} (h : Pair w0 w a base vK vV kn vn) (i : Nat) (v : Value) : Pair w0 (w.setCell ⟨a, i, none⟩ v) a base vK vV kn vn :=
  ⟨h.ok.same fun k e _ => heap_setCell_other _ _ _ _ (fun e2 => h.ak (by rw [e, e2])), h.ov.same fun k e _ => heap_setCell_other _ _ _ _ (fun e2 => h.av (by rw [e, e2])), h.ne, h.ak, h.av, by simpa using h.lt, h.ba, h.bw.setCell (p := ⟨a, i, none⟩) h.ba _⟩
theorem Pair.cellK {w0 w w' : World} {a base : Nat} {vK vV : Value} {kn vn : List UInt64} (h : Pair w0 w a base vK vV kn vn) (hg : w.grownBy w' vK.ownBlock) (i : Nat) : w'.cell? ⟨a, i, none⟩ = w.cell? ⟨a, i, none⟩ := hg.cell_far _ h.lt (fun e => h.ak e.symm)
theorem Pair.cellV {w0 w w' : World} {a base : Nat} {vK vV : Value} {kn vn : List UInt64} (h : Pair w0 w a base vK vV kn vn) (hg : w.grownBy w' vV.ownBlock) (i : Nat) : w'.cell? ⟨a, i, none⟩ = w.cell? ⟨a, i, none⟩ := hg.cell_far _ h.lt (fun e => h.av e.symm)
theorem Pair.freeK {w0 w w' : World} {a base : Nat} {vK vV : Value} {kn vn : List UInt64} (h : Pair w0 w a base vK vV kn vn) (hg : w.grownBy w' vK.ownBlock) (i : Nat) : w'.frozen? ⟨a, i, none⟩ = w.frozen? ⟨a, i, none⟩ := hg.frozen_far _ h.lt (fun e => h.ak e.symm)
theorem Pair.freeV {w0 w w' : World} {a base : Nat} {vK vV : Value} {kn vn : List UInt64} (h : Pair w0 w a base vK vV kn vn) (hg : w.grownBy w' vV.ownBlock) (i : Nat) : w'.frozen? ⟨a, i, none⟩ = w.frozen? ⟨a, i, none⟩ := hg.frozen_far _ h.lt (fun e => h.av e.symm)
theorem Pair.nd {w0 w : World} {a base n c d : Nat} {A B : Option Addr} {kn vn : List UInt64} (h : Pair w0 w a base (.slice A n c) (.slice B n d) kn vn) (hk : kn.length = n) (hv : vn.length = n) : Nd w A n c B n d kn vn := by
  obtain ⟨a1, c1, e1, t1, l1, m1⟩ := h.ok.slice
  obtain ⟨a2, c2, e2, t2, l2, m2⟩ := h.ov.slice
  rw [hk] at e1 l1
  rw [hv] at e2 l2
  cases e1
  cases e2
  exact ⟨hk, hv, l1, m1, l2, m2, t1, t2⟩
end Go.Proofs.Ytngigpciipdogaa.Lf
