/- The reference's Decode. -/
import Derived.Test.YtelaconfjofciaaLrC
namespace Go.Proofs.Ytelaconfjofciaa.Lf
open Go.RowKit Go.Proofs.Ytelaconfjofciaa.Oct
set_option linter.unusedVariables false

theorem RD.mid {w w1 w2 : World} {base q r g : Nat} {l : Bool} {kn vn : List UInt64} {vK vV : Value} {bs : List UInt8} (h : RD w w1 base q r g l kn vn vK vV bs) {row : Option Nat} (hg : w1.grownBy w2 row) (hr : ∀ k, row = some k → base ≤ k) :
    (w2.cell? ⟨q, 1, none⟩ = some vK ∧ w2.cell? ⟨q, 2, none⟩ = some vV) ∧ (w2.frozen? ⟨q, 1, none⟩ = false ∧ w2.frozen? ⟨q, 2, none⟩ = false) := by
  have hb := h.b0
  have hq := h.q0
  have bl : Below base w1 w2 := ⟨hg.os, hg.tape, hg.output, hg.size, fun k hk => hg.block k (by omega) (fun e => by have := hr k e.symm; omega)⟩
  exact ⟨⟨(bl.cell (p := ⟨q, 1, none⟩) hq).trans h.c1, (bl.cell (p := ⟨q, 2, none⟩) hq).trans h.c2⟩, ⟨(bl.frozen (p := ⟨q, 1, none⟩) hq).trans (h.f 1), (bl.frozen (p := ⟨q, 2, none⟩) hq).trans (h.f 2)⟩⟩

theorem head_in {ps : List UInt8} (h : Holds ps) : headIn ps = 1 ∨ headIn ps = 2 := by
  have e := h.2.2.2.2
  have : headIn (nodePage (leafIn ps) (keysIn ps) (valsIn ps)) = kindN (leafIn ps) := by cases leafIn ps <;> rfl
  rw [e] at this
  rw [this]
  cases leafIn ps
  · exact .inr rfl
  · exact .inl rfl
theorem body_holds {ps : List UInt8} (h : Holds ps) : bodyIn ps = fullBody (keysIn ps) (valsIn ps) := by
  have hf := h.2.2.2.1
  have := body_in (leafIn ps) (keysIn ps) (valsIn ps) hf.2.1 hf.1
  rwa [h.2.2.2.2] at this
theorem len_keysIn (ps : List UInt8) (h : (cAt (bodyIn ps)).toNat ≤ 7) : (keysIn ps).length = (cAt (bodyIn ps)).toNat := by
  unfold keysIn
  rw [List.length_take, length_upTo]
  omega
theorem len_valsIn (ps : List UInt8) (h : (cAt (bodyIn ps)).toNat ≤ 7) : (valsIn ps).length = (cAt (bodyIn ps)).toNat := by
  unfold valsIn
  rw [List.length_take, length_upTo]
  omega
/-- Noughts stand behind the last pair. -/
theorem zeros_holds {ps : List UInt8} (h : Holds ps) : (bodyIn ps).drop (1 + 16 * (cAt (bodyIn ps)).toNat) = List.replicate (122 - 16 * (cAt (bodyIn ps)).toNat) 0 := by
  have hf := h.2.2.2.1
  have hl := length_nodeBody (keysIn ps) (valsIn ps) hf.2.1
  have hk := len_keysIn ps h.2.2.1
  rw [hk] at hl
  generalize hc : (cAt (bodyIn ps)).toNat = cn at *
  rw [body_holds h]
  unfold fullBody
  rw [List.drop_append_of_le_length (by omega), List.drop_of_length_le (by omega), List.nil_append, hl]
  congr 1
  omega
theorem pairs_read (bs : List UInt8) (hb : bs.length = 123) (n : Nat) (hn : n ≤ 7) : pairs ((List.range n).map (kAt bs)) ((List.range n).map (vAt bs)) = (bs.drop 1).take (16 * n) := by
  induction n with
  | zero => simp [pairs]
  | succ n ih =>
    rw [List.range_succ, List.map_append, List.map_append, List.map_singleton, List.map_singleton, pairs_snoc _ _ (by simp), ih (by omega)]
    have e1 : bytesOf (kAt bs n).toNat 8 = (bs.drop (1 + 16 * n)).take 8 := by
      have hl : ((bs.drop (1 + 16 * n)).take 8).length = 8 := by simp; omega
      have := bytesOf_num ((bs.drop (1 + 16 * n)).take 8)
      rw [hl] at this
      unfold kAt
      rw [show (UInt64.ofNat (num ((bs.drop (1 + 16 * n)).take 8))).toNat = num ((bs.drop (1 + 16 * n)).take 8) by have := num_lt8 ((bs.drop (1 + 16 * n)).take 8) (by omega); simp; omega, this]
    have e2 : bytesOf (vAt bs n).toNat 8 = (bs.drop (9 + 16 * n)).take 8 := by
      have hl : ((bs.drop (9 + 16 * n)).take 8).length = 8 := by simp; omega
      have := bytesOf_num ((bs.drop (9 + 16 * n)).take 8)
      rw [hl] at this
      unfold vAt
      rw [show (UInt64.ofNat (num ((bs.drop (9 + 16 * n)).take 8))).toNat = num ((bs.drop (9 + 16 * n)).take 8) by have := num_lt8 ((bs.drop (9 + 16 * n)).take 8) (by omega); simp; omega, this]
    rw [e1, e2]
    apply List.ext_getElem
    · simp; omega
    · intro i h1 h2
      simp at h1 h2
      simp only [List.getElem_append, List.length_append, List.length_take, List.length_drop, List.getElem_take, List.getElem_drop]
      split
      · split
        · rfl
        · congr 1; omega
      · congr 1; omega
/-- What is read so, with its noughts, is the page. -/
theorem page_whole {ps : List UInt8} (hl : ps.length = 128) (hg : Oct.Good ps) : ps = page (headIn ps) (bodyIn ps) := by
  have hf : face (headIn ps) (bodyIn ps) = ps.take 124 := by
    have hb : (bodyIn ps).length = 123 := by unfold bodyIn; simp; omega
    unfold face
    rw [hb, Nat.sub_self, List.replicate_zero, List.append_nil]
    cases ps with
    | nil => simp at hl
    | cons a t => simp [headIn, bodyIn]
  have h4 : (ps.drop 124).length = 4 := by simp; omega
  unfold page
  rw [hf]
  unfold Oct.Good at hg
  rw [← hg]
  have := bytesOf_num (ps.drop 124)
  rw [h4] at this
  rw [this, List.take_append_drop]
theorem holds_of {ps : List UInt8} (hl : ps.length = 128) (hg : Oct.Good ps) (h7 : (cAt (bodyIn ps)).toNat ≤ 7) (hf : Fit (leafIn ps) (keysIn ps) (valsIn ps)) (hh : headIn ps = 1 ∨ headIn ps = 2)
    (hz : (bodyIn ps).drop (1 + 16 * (cAt (bodyIn ps)).toNat) = List.replicate (122 - 16 * (cAt (bodyIn ps)).toNat) 0) : Holds ps := by
  refine ⟨hl, hg, h7, hf, ?_⟩
  have hk : kindN (leafIn ps) = headIn ps := by
    unfold leafIn kindN
    rcases hh with h | h <;> rw [h] <;> rfl
  have hbl : (bodyIn ps).length = 123 := by unfold bodyIn; simp; omega
  have hfull : fullBody (keysIn ps) (valsIn ps) = bodyIn ps := by
    have hlk := len_keysIn ps h7
    have hp := pairs_read (bodyIn ps) hbl (cAt (bodyIn ps)).toNat h7
    have hk2 : keysIn ps = (List.range (cAt (bodyIn ps)).toNat).map (kAt (bodyIn ps)) := upTo_seven _ _ h7
    have hv2 : valsIn ps = (List.range (cAt (bodyIn ps)).toNat).map (vAt (bodyIn ps)) := upTo_seven _ _ h7
    have hn := length_nodeBody (keysIn ps) (valsIn ps) hf.2.1
    unfold fullBody
    rw [hn, hlk, show 123 - (1 + 16 * (cAt (bodyIn ps)).toNat) = 122 - 16 * (cAt (bodyIn ps)).toNat by omega, ← hz]
    unfold nodeBody
    rw [hlk, hk2, hv2, hp]
    have h1 : bytesOf (cAt (bodyIn ps)).toNat 1 = (bodyIn ps).take 1 := by
      have hl1 : ((bodyIn ps).take 1).length = 1 := by simp; omega
      have := bytesOf_num ((bodyIn ps).take 1)
      rw [hl1] at this
      have hc : (cAt (bodyIn ps)).toNat = num ((bodyIn ps).take 1) := by
        have := num_lt ((bodyIn ps).take 1)
        rw [hl1] at this
        unfold cAt
        rw [List.drop_zero]
        simp
        omega
      rw [hc, this]
    rw [h1, List.append_assoc, ← List.drop_drop, List.take_append_drop, List.take_append_drop]
  unfold nodePage
  rw [hk, ← page_pad (headIn ps) (nodeBody (keysIn ps) (valsIn ps)) (by rw [length_nodeBody _ _ hf.2.1]; have := hf.1; omega)]
  show page (headIn ps) (fullBody (keysIn ps) (valsIn ps)) = ps
  rw [hfull]
  exact (page_whole hl hg).symm
end Go.Proofs.Ytelaconfjofciaa.Lf
