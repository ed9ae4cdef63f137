/- What the reference's Decode needs: two rows of numbers that grow, in a node's variable. -/
import Derived.Test.YtelaconfjofciaaLrB
import Derived.Laws.ResultCell
import Derived.Deep.RegionLaw
import Derived.Deep.AppendLies
namespace Go.Proofs.Ytelaconfjofciaa.Lf
open Go.RowKit Go.Proofs.Ytelaconfjofciaa.Oct
set_option linter.unusedVariables false

/-- The slice v is the call's own, and holds the numbers ns. -/
def OwnN (w : World) (base : Nat) (v : Value) (ns : List UInt64) : Prop := w.ownsRow base 43 1 v ns.length (nvals ns)
theorem OwnN.same {w w' : World} {base : Nat} {v : Value} {ns : List UInt64} (h : OwnN w base v ns) (hk : ∀ k, v.ownBlock = some k → k < w.heap.size → w'.heap[k]? = w.heap[k]?) : OwnN w' base v ns := by
  refine ⟨h.1, ?_⟩
  rcases h.2 with hn | ⟨g, cap, cur, rfl, hb, hgg, rest⟩
  · exact .inl hn
  · refine .inr ⟨g, cap, cur, rfl, hb, ?_, rest⟩
    rw [hk g rfl (Array.getElem?_eq_some_iff.1 hgg).1]
    exact hgg
theorem OwnN.below {w w' : World} {base B : Nat} {v : Value} {ns : List UInt64} (h : OwnN w base v ns) (k : Below B w w') (hB : w.heap.size ≤ B) : OwnN w' base v ns := h.same fun i _ hi => k.block i (by omega)
theorem OwnN.slice {w : World} {base : Nat} {v : Value} {ns : List UInt64} (h : OwnN w base v ns) : ∃ a cap, v = .slice a ns.length cap ∧ ToldN w a ns ∧ ns.length ≤ cap ∧ cap ≤ maxLen := by
  rcases h.2 with ⟨rfl, h0⟩ | ⟨g, cap, cur, rfl, hb, hg, hn, hm, hs, ht⟩
  · have : ns = [] := List.eq_nil_of_length_eq_zero h0
    subst this
    exact ⟨none, 0, rfl, .inl rfl, Nat.le_refl _, Nat.zero_le _⟩
  · have hh : HasN w g 0 ns := fun i hi => by
      rw [Nat.zero_add]
      have := World.ownsRow.cellAt h i (by omega)
      rw [this]
      simp [nvals, hi]
    exact ⟨_, cap, rfl, hh.told, hn, hm⟩
theorem nums_info : (Try.prog.info? 43).map (fun i => (i.zero, i.size, i.bytes)) = some (some (.int .u64 0), 1, 8) := by kernel_rfl

theorem step_app_num {ops : Array Oper} {o : Oper} {a : Act} {w : World} {K : Act → World → Prop} {Q : Exit → Act → World → Prop} {E : Prop} (hgd : o.guard = none) (s x : Operand)
    (ho : o.op = .call { callee := .builtin .append, args := #[s, x], argTypes := #[22, 22] }) (base : Nat) (v : Value) (ns : List UInt64) (hs : a.eval s = v) (hown : OwnN w base v ns) (hn : ns.length ≤ 1000)
    (b : Nat) (y : UInt64) (hx : a.eval x = .slice (some ⟨b, 0, none⟩) 1 1) (hc : w.cell? ⟨b, 0, none⟩ = some (.int .u64 (y.toNat : Int))) (hbase : base ≤ w.heap.size)
    (h : ∀ g cap w', OwnN w' base (.slice (some ⟨g, 0, none⟩) (ns.length + 1) cap) (ns ++ [y]) → w.grownBy w' v.ownBlock → (v.ownBlock = some g ∨ g = w.heap.size) → K (a.put o.dst (.slice (some ⟨g, 0, none⟩) (ns.length + 1) cap)) w') :
    if Region.wanted o (yielded ops a.tmps) = true then Oper.wp Try.prog o a w K Q else E := by
  obtain ⟨i0, hi, hz0, hz1, hz2⟩ := info_parts nums_info
  refine step_append_lies w hgd s x 22 ho base 43 i0 (.int .u64 0) 1 8 Try.underlying22 hi hz0 hz1 hz2 rfl (by omega) v ns.length (nvals ns) hs hown ⟨b, 0, none⟩ 1 1 (nvals [y]) hx rfl
    (fun j u hj => ?_) (fun u hu => by simp [nvals] at hu; subst hu; rfl) (by omega) (by unfold maxLen; omega) (by omega) hbase w.heap.size rfl (fun g cap w' h1 h2 h3 h4 => h g cap w' ?_ h2 h3)
  · cases j with
    | zero => simp [nvals] at hj; subst hj; rw [add_plain]; exact hc
    | succ j => simp [nvals] at hj
  · unfold OwnN
    rw [List.length_append, show nvals (ns ++ [y]) = nvals ns ++ nvals [y] by simp [nvals]]
    exact h1

/-- What lies about in the reference's Decode: the node that grows in block q, the result's variable r, the body in g. -/
structure RD (w wr : World) (base q r g : Nat) (l : Bool) (kn vn : List UInt64) (vK vV : Value) (bs : List UInt8) : Prop where
  c0 : wr.cell? ⟨q, 0, none⟩ = some (.bool l)
  c1 : wr.cell? ⟨q, 1, none⟩ = some vK
  c2 : wr.cell? ⟨q, 2, none⟩ = some vV
  f : ∀ i, wr.frozen? ⟨q, i, none⟩ = false
  ok : OwnN wr base vK kn
  ov : OwnN wr base vV vn
  ne : ∀ k, vK.ownBlock = some k → vV.ownBlock ≠ some k
  body : Has wr g 0 bs
  res : Res wr r
  bw : Below w.heap.size w wr
  q0 : q < base
  r0 : r < base
  g0 : g < base
  qr : w.heap.size ≤ q
  b0 : base ≤ wr.heap.size
  rq : r ≠ q
  gq : g ≠ q
theorem RD.below {w wr w' : World} {base q r g : Nat} {l : Bool} {kn vn : List UInt64} {vK vV : Value} {bs : List UInt8} (h : RD w wr base q r g l kn vn vK vV bs) (k : Below wr.heap.size wr w') : RD w w' base q r g l kn vn vK vV bs := by
  have hb := h.b0
  have hq := h.q0
  have hg := h.g0
  have hql : q < wr.heap.size := by omega
  have hgl : g < wr.heap.size := by omega
  exact ⟨(k.cell (p := ⟨q, 0, none⟩) hql).trans h.c0, (k.cell (p := ⟨q, 1, none⟩) hql).trans h.c1, (k.cell (p := ⟨q, 2, none⟩) hql).trans h.c2, fun i => (k.frozen (p := ⟨q, i, none⟩) hql).trans (h.f i), h.ok.below k (Nat.le_refl _), h.ov.below k (Nat.le_refl _), h.ne,
    h.body.below hgl k, h.res.below k h.res.lt, h.bw.trans (k.mono h.bw.size), h.q0, h.r0, h.g0, h.qr, Nat.le_trans hb k.size, h.rq, h.gq⟩
theorem RD.still {w wr w' : World} {base q r g : Nat} {l : Bool} {kn vn : List UInt64} {vK vV : Value} {bs : List UInt8} (h : RD w wr base q r g l kn vn vK vV bs) (S : Still wr w') : RD w w' base q r g l kn vn vK vV bs := h.below (S.below _)
/-- Behind an append to the keys, and its store. -/
theorem RD.pushK {w w1 w2 : World} {base q r g : Nat} {l : Bool} {kn vn : List UInt64} {vK vV : Value} {bs : List UInt8} (h : RD w w1 base q r g l kn vn vK vV bs) {j cap : Nat} {y : UInt64}
    (ho : OwnN w2 base (.slice (some ⟨j, 0, none⟩) (kn.length + 1) cap) (kn ++ [y])) (hg : w1.grownBy w2 vK.ownBlock) (hl : vK.ownBlock = some j ∨ j = w1.heap.size) :
    RD w (w2.setCell ⟨q, 1, none⟩ (.slice (some ⟨j, 0, none⟩) (kn.length + 1) cap)) base q r g l (kn ++ [y]) vn (.slice (some ⟨j, 0, none⟩) (kn.length + 1) cap) vV bs := by
  have hb := h.b0
  have hq := h.q0
  have hr := h.r0
  have hgg := h.g0
  have low : ∀ k, k < base → w2.heap[k]? = w1.heap[k]? := fun k hk => hg.block k (by omega) (fun e => by have := (World.ownsRow.lt h.ok k e.symm).1; omega)
  have bl : Below base w1 w2 := ⟨hg.os, hg.tape, hg.output, hg.size, fun k hk => low k hk⟩
  have hc : ∀ i, i ≠ 1 → (w2.setCell ⟨q, 1, none⟩ (.slice (some ⟨j, 0, none⟩) (kn.length + 1) cap)).cell? ⟨q, i, none⟩ = w1.cell? ⟨q, i, none⟩ := fun i hi => (set_other (by omega)).trans (bl.cell (p := ⟨q, i, none⟩) hq)
  have hne : ∀ b i, b ≠ q → (w2.setCell ⟨q, 1, none⟩ (.slice (some ⟨j, 0, none⟩) (kn.length + 1) cap)).cell? ⟨b, i, none⟩ = w2.cell? ⟨b, i, none⟩ := fun b i hb => World.cell?_setCell_other _ _ _ _ (fun e => hb (Addr.mk.inj e).1.symm)
  refine ⟨(hc 0 (by omega)).trans h.c0, set_same ((bl.cell (p := ⟨q, 1, none⟩) hq).trans h.c1), (hc 2 (by omega)).trans h.c2, fun i => by simpa using (bl.frozen (p := ⟨q, i, none⟩) hq).trans (h.f i), ?_, ?_, ?_, ?_, ?_, ?_, h.q0, h.r0, h.g0, h.qr, by simp; exact Nat.le_trans hb hg.size, h.rq, h.gq⟩
  · exact ho.same fun k e _ => heap_setCell_other _ _ _ _ (by have := (World.ownsRow.lt ho k e).1; show k ≠ q; omega)
  · refine h.ov.same fun k e hk => ?_
    rw [heap_setCell_other _ _ _ _ (by have := (World.ownsRow.lt h.ov k e).1; show k ≠ q; omega)]
    exact hg.block k hk (fun e2 => h.ne k e2.symm e)
  · intro k e e2
    have hjk : j = k := by simpa [Value.ownBlock] using e
    have hkl := (World.ownsRow.lt h.ov k e2).2
    rcases hl with hl | hl
    · exact h.ne k (by rw [← hjk]; exact hl) e2
    · omega
  · exact fun i hi => (hne g _ h.gq).trans ((bl.cell (p := ⟨g, 0 + i, none⟩) hgg).trans (h.body i hi))
  · exact ⟨(hne r _ h.rq).trans ((bl.cell (p := ⟨r, 0, none⟩) hr).trans h.res.c0), (hne r _ h.rq).trans ((bl.cell (p := ⟨r, 1, none⟩) hr).trans h.res.c1), (hne r _ h.rq).trans ((bl.cell (p := ⟨r, 2, none⟩) hr).trans h.res.c2), fun i => by simpa using (bl.frozen (p := ⟨r, i, none⟩) hr).trans (h.res.f i), by simp; exact Nat.lt_of_lt_of_le h.res.lt bl.size⟩
  · exact (h.bw.trans (bl.mono (Nat.le_trans h.qr (Nat.le_of_lt hq)))).setCell (p := ⟨q, 1, none⟩) h.qr _
/-- Behind an append to the values, and its store. -/
theorem RD.pushV {w w1 w2 : World} {base q r g : Nat} {l : Bool} {kn vn : List UInt64} {vK vV : Value} {bs : List UInt8} (h : RD w w1 base q r g l kn vn vK vV bs) {j cap : Nat} {y : UInt64}
    (ho : OwnN w2 base (.slice (some ⟨j, 0, none⟩) (vn.length + 1) cap) (vn ++ [y])) (hg : w1.grownBy w2 vV.ownBlock) (hl : vV.ownBlock = some j ∨ j = w1.heap.size) :
    RD w (w2.setCell ⟨q, 2, none⟩ (.slice (some ⟨j, 0, none⟩) (vn.length + 1) cap)) base q r g l kn (vn ++ [y]) vK (.slice (some ⟨j, 0, none⟩) (vn.length + 1) cap) bs := by
  have hb := h.b0
  have hq := h.q0
  have hr := h.r0
  have hgg := h.g0
  have low : ∀ k, k < base → w2.heap[k]? = w1.heap[k]? := fun k hk => hg.block k (by omega) (fun e => by have := (World.ownsRow.lt h.ov k e.symm).1; omega)
  have bl : Below base w1 w2 := ⟨hg.os, hg.tape, hg.output, hg.size, fun k hk => low k hk⟩
  have hc : ∀ i, i ≠ 2 → (w2.setCell ⟨q, 2, none⟩ (.slice (some ⟨j, 0, none⟩) (vn.length + 1) cap)).cell? ⟨q, i, none⟩ = w1.cell? ⟨q, i, none⟩ := fun i hi => (set_other (by omega)).trans (bl.cell (p := ⟨q, i, none⟩) hq)
  have hne : ∀ b i, b ≠ q → (w2.setCell ⟨q, 2, none⟩ (.slice (some ⟨j, 0, none⟩) (vn.length + 1) cap)).cell? ⟨b, i, none⟩ = w2.cell? ⟨b, i, none⟩ := fun b i hb => World.cell?_setCell_other _ _ _ _ (fun e => hb (Addr.mk.inj e).1.symm)
  refine ⟨(hc 0 (by omega)).trans h.c0, (hc 1 (by omega)).trans h.c1, set_same ((bl.cell (p := ⟨q, 2, none⟩) hq).trans h.c2), fun i => by simpa using (bl.frozen (p := ⟨q, i, none⟩) hq).trans (h.f i), ?_, ?_, ?_, ?_, ?_, ?_, h.q0, h.r0, h.g0, h.qr, by simp; exact Nat.le_trans hb hg.size, h.rq, h.gq⟩
  · refine h.ok.same fun k e hk => ?_
    rw [heap_setCell_other _ _ _ _ (by have := (World.ownsRow.lt h.ok k e).1; show k ≠ q; omega)]
    exact hg.block k hk (fun e2 => h.ne k e e2.symm)
  · exact ho.same fun k e _ => heap_setCell_other _ _ _ _ (by have := (World.ownsRow.lt ho k e).1; show k ≠ q; omega)
  · intro k e e2
    have hjk : j = k := by simpa [Value.ownBlock] using e2
    have hkl := (World.ownsRow.lt h.ok k e).2
    rcases hl with hl | hl
    · exact h.ne k e (by rw [← hjk]; exact hl)
    · omega
  · exact fun i hi => (hne g _ h.gq).trans ((bl.cell (p := ⟨g, 0 + i, none⟩) hgg).trans (h.body i hi))
  · exact ⟨(hne r _ h.rq).trans ((bl.cell (p := ⟨r, 0, none⟩) hr).trans h.res.c0), (hne r _ h.rq).trans ((bl.cell (p := ⟨r, 1, none⟩) hr).trans h.res.c1), (hne r _ h.rq).trans ((bl.cell (p := ⟨r, 2, none⟩) hr).trans h.res.c2), fun i => by simpa using (bl.frozen (p := ⟨r, i, none⟩) hr).trans (h.res.f i), by simp; exact Nat.lt_of_lt_of_le h.res.lt bl.size⟩
  · exact (h.bw.trans (bl.mono (Nat.le_trans h.qr (Nat.le_of_lt hq)))).setCell (p := ⟨q, 2, none⟩) h.qr _
end Go.Proofs.Ytelaconfjofciaa.Lf
