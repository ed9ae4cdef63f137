/- What placing keeps: mathematics of a run. No function of the program is walked. -/
import Derived.Test.YtlemjegngnfanaaPlK
namespace Go.Proofs.Ytlemjegngnfanaa.Pl
open Go.RowKit Go.Proofs.Ytlemjegngnfanaa.Oct Go.Proofs.Ytlemjegngnfanaa.Mv Go.Proofs.Ytlemjegngnfanaa.Tl Go.Proofs.Ytlemjegngnfanaa.Pk Go.Maps
set_option linter.unusedVariables false

/-- Blocks that pages stood at are kept; none was handed out ahead of the first. -/
structure Base (q0 : Q) (L0 : List Nat) : Prop where
  kept : ∀ i, i < L0.length → L0.getD i 0 ≠ 0 → q0.s.was (L0.getD i 0) ≠ 0 ∧ L0.getD i 0 < q0.s.n
  first : 1 ≤ q0.first
structure RInv (q0 : Q) (L0 : List Nat) (q : Q) (L : List Nat) (F : List Bool) : Prop where
  lenL : L.length = L0.length
  lenF : F.length = L.length
  kept : q.s.kept = q0.s.kept
  n : q.s.n = q0.s.n
  first : q.first = q0.first
  asked : q.asked = q0.asked
  un : ∀ i, i < L.length → F.getD i false = false → L.getD i 0 = L0.getD i 0 ∧ (L.getD i 0 ≠ 0 → q.s.cnt (L.getD i 0) = 1)
  pl : ∀ i, i < L.length → F.getD i false = true → L.getD i 0 ≠ 0 ∧ L.getD i 0 < q.s.n ∧ q.s.cnt (L.getD i 0) = 1 ∧ q.s.was (L.getD i 0) = 0 ∧ (L0.getD i 0 ≠ 0 → q.s.cnt (L0.getD i 0) = 0)
  ne : ∀ i j, i < L.length → j < L.length → i ≠ j → F.getD i false = true → L.getD i 0 ≠ L.getD j 0
theorem RInv.was {q0 q : Q} {L0 L : List Nat} {F : List Bool} (h : RInv q0 L0 q L F) (j : Nat) : q.s.was j = q0.s.was j := by
  unfold St.was
  rw [h.kept]
theorem RInv.move {q0 q q' : Q} {L0 L : List Nat} {F : List Bool} {i b : Nat} (hb : Base q0 L0) (h : RInv q0 L0 q L F) (hl : Loose q L F) (hok : q.Ok) (hi : i < L.length) (hf : F.getD i false = false) (hm : Moved q (L.getD i 0) q' b) : RInv q0 L0 q' (L.set i b) (F.set i true) := by
  have may := hl.may i hi hf
  obtain ⟨hb1, hb2⟩ := hm.free
  rw [down1_was q _ may] at hb2
  have hbn := hm.lt may
  have hb0 : b ≠ 0 := by
    have := hm.ge may hok
    have := h.first
    have := hb.first
    omega
  have hu := h.un i hi hf
  have wasne : ∀ j, j < L.length → L0.getD j 0 ≠ 0 → L0.getD j 0 ≠ b := fun j hj hz e => by
    have := (hb.kept j (by rw [← h.lenL]; exact hj) hz).1
    rw [← h.was, e] at this
    exact this hb2
  have getF : ∀ j, (F.set i true).getD j false = if j = i then true else F.getD j false := fun j => by
    rw [getD_set]
    by_cases e : j = i
    · rw [if_pos ⟨e, by rw [h.lenF]; exact hi⟩, if_pos e]
    · rw [if_neg (fun k => e k.1), if_neg e]
  have getL : ∀ j, (L.set i b).getD j 0 = if j = i then b else L.getD j 0 := fun j => by
    rw [getD_set]
    by_cases e : j = i
    · rw [if_pos ⟨e, hi⟩, if_pos e]
    · rw [if_neg (fun k => e k.1), if_neg e]
  -- a placed one is not b, and stays as it is
  have keepPl : ∀ j, j < L.length → j ≠ i → F.getD j false = true → L.getD j 0 ≠ b ∧ L.getD j 0 ≠ L.getD i 0 := fun j hj hji hF => by
    have hn := h.ne j i hj hi hji hF
    refine ⟨fun e => ?_, hn⟩
    have h1 := (h.pl j hj hF).2.2.1
    rw [← e, down1_cnt may, if_neg (fun k => hn k.1), h1] at hb1
    exact absurd hb1 (by decide)
  have keepUn : ∀ j, j < L.length → j ≠ i → F.getD j false = false → L.getD j 0 ≠ b := fun j hj hji hF e => by
    have h1 := (h.un j hj hF).1
    have hz : L0.getD j 0 ≠ 0 := by rw [← h1, e]; exact hb0
    exact wasne j hj hz (h1 ▸ e)
  refine ⟨by rw [List.length_set]; exact h.lenL, by rw [List.length_set, List.length_set]; exact h.lenF, (hm.kept may).trans h.kept, (hm.n may).trans h.n, hm.first.trans h.first, hm.asked.trans h.asked, ?_, ?_, ?_⟩
  · intro j hj hF
    rw [List.length_set] at hj
    rw [getF] at hF
    by_cases e : j = i
    · rw [if_pos e] at hF; cases hF
    · rw [if_neg e] at hF
      rw [getL, if_neg e]
      obtain ⟨h1, h2⟩ := h.un j hj hF
      refine ⟨h1, fun hz => ?_⟩
      rw [hm.cnt may, if_neg (keepUn j hj e hF), down1_cnt may, if_neg (fun k => hl.ne j i hj hi e hF hf hz k.1)]
      exact h2 hz
  · intro j hj hF
    rw [List.length_set] at hj
    rw [getF] at hF
    rw [getL]
    by_cases e : j = i
    · subst e
      rw [if_pos rfl]
      refine ⟨hb0, by rw [hm.n may]; exact hbn, by rw [hm.cnt may, if_pos rfl], by rw [hm.was may]; exact hb2, fun hz => ?_⟩
      have h3 := wasne j hj hz
      rw [hm.cnt may, if_neg h3, down1_cnt may]
      rw [← hu.1] at hz ⊢
      rw [if_pos ⟨rfl, hz⟩, hu.2 hz]
      rfl
    · rw [if_neg e] at hF
      rw [if_neg e]
      obtain ⟨h1, h2, h3, h4, h5⟩ := h.pl j hj hF
      obtain ⟨k1, k2⟩ := keepPl j hj e hF
      refine ⟨h1, by rw [hm.n may]; exact h2, by rw [hm.cnt may, if_neg k1, down1_cnt may, if_neg (fun k => k2 k.1)]; exact h3, by rw [hm.was may]; exact h4, fun hz => ?_⟩
      rw [hm.cnt may, if_neg (wasne j hj hz), down1_cnt may]
      rw [if_neg]
      · exact h5 hz
      · rintro ⟨k, kz⟩
        have h6 := h5 hz
        rw [k, hu.2 kz] at h6
        exact absurd h6 (by decide)
  · intro j k hj hk hjk hF
    rw [List.length_set] at hj hk
    rw [getF] at hF
    rw [getL, getL]
    by_cases ej : j = i
    · subst ej
      rw [if_pos rfl, if_neg (Ne.symm hjk)]
      cases hFk : F.getD k false
      · exact Ne.symm (keepUn k hk (Ne.symm hjk) hFk)
      · exact Ne.symm (keepPl k hk (Ne.symm hjk) hFk).1
    · rw [if_neg ej] at hF
      rw [if_neg ej]
      by_cases ek : k = i
      · subst ek
        rw [if_pos rfl]
        exact (keepPl j hj ej hF).1
      · rw [if_neg ek]
        exact h.ne j k hj hk hjk hF

def Wk.RI (x : Wk) (q0 : Q) (L0 : List Nat) : Prop := RInv q0 L0 x.q (x.l1 ++ x.l2) (x.f1 ++ x.f2)
section
variable {x y z : Wk} {q0 q : Q} {L0 l1 l2 : List Nat}
theorem Wk.Step.ri (h : x.Step y) (hg : x.Good) (hb : Base q0 L0) (hr : x.RI q0 L0) : y.RI q0 L0 := by
  cases h with
  | one i b q' k1 k2 =>
    obtain ⟨hi, hf, _⟩ := k1.ask
    show RInv q0 L0 q' (x.l1.set i b ++ x.l2) (x.f1.set i true ++ x.f2)
    rw [← List.set_append_left _ _ hi, ← List.set_append_left _ _ (by rw [hg.fl1]; exact hi)]
    refine RInv.move hb hr hg.loose hg.ok (by rw [List.length_append]; omega) (by rw [getD_app1 _ _ _ (by rw [hg.fl1]; exact hi)]; exact hf) ?_
    rw [getD_app1 _ _ _ hi]; exact k2
  | two i b q' k0 k1 k2 =>
    obtain ⟨hi, hf, _⟩ := k1.ask
    show RInv q0 L0 q' (x.l1 ++ x.l2.set i b) (x.f1 ++ x.f2.set i true)
    have e1 : x.l1 ++ x.l2.set i b = (x.l1 ++ x.l2).set (x.l1.length + i) b := by
      rw [List.set_append_right _ _ (by omega)]; congr 2; omega
    have e2 : x.f1 ++ x.f2.set i true = (x.f1 ++ x.f2).set (x.l1.length + i) true := by
      rw [List.set_append_right _ _ (by rw [hg.fl1]; omega)]; congr 2; rw [hg.fl1]; omega
    rw [e1, e2]
    refine RInv.move hb hr hg.loose hg.ok (by rw [List.length_append]; omega) (by rw [← hg.fl1, getD_app2]; exact hf) ?_
    rw [getD_app2]; exact k2
theorem Wk.Runs.ri (h : x.Runs y) (hg : x.Good) (hb : Base q0 L0) (hr : x.RI q0 L0) : y.RI q0 L0 := by
  induction h with
  | done _ => exact hr
  | step s r ih => exact ih (hg.step s) (s.ri hg hb hr)
theorem Wk.Runs.end' (h : x.Runs y) : y.End := by
  induction h with
  | done e => exact e
  | step s r ih => exact ih
theorem begin_ri (hb : ∀ i, i < (l1 ++ l2).length → (l1 ++ l2).getD i 0 ≠ 0 → q.s.cnt ((l1 ++ l2).getD i 0) = 1) : (begin q l1 l2).RI q (l1 ++ l2) := by
  have hF : ∀ i, (List.replicate l1.length false ++ List.replicate l2.length false).getD i false = false := fun i => by
    rw [List.replicate_append_replicate]
    exact getD_rep _ _
  refine ⟨rfl, by simp [begin], rfl, rfl, rfl, rfl, fun i hi _ => ⟨rfl, hb i hi⟩, fun i hi h => ?_, fun i j hi hj hne h => ?_⟩
  · rw [show (begin q l1 l2).f1 ++ (begin q l1 l2).f2 = List.replicate l1.length false ++ List.replicate l2.length false from rfl, hF] at h
    cases h
  · rw [show (begin q l1 l2).f1 ++ (begin q l1 l2).f2 = List.replicate l1.length false ++ List.replicate l2.length false from rfl, hF] at h
    cases h

/-! ### Where all pages stand, each at a block of its own that has a count of one -/
structure Sound (q : Q) (l1 l2 : List Nat) : Prop where
  ok : q.Ok
  first : q.first = 2
  len1 : l1.length = pg q.s.n
  len2 : l2.length = pg (pg q.s.n)
  one : ∀ i, i < (l1 ++ l2).length → (l1 ++ l2).getD i 0 ≠ 0 ∧ (l1 ++ l2).getD i 0 < q.s.n ∧ q.s.cnt ((l1 ++ l2).getD i 0) = 1 ∧ q.s.was ((l1 ++ l2).getD i 0) = 1
  ne : ∀ i j, i < (l1 ++ l2).length → j < (l1 ++ l2).length → i ≠ j → (l1 ++ l2).getD i 0 ≠ (l1 ++ l2).getD j 0
theorem right_of {s : St} (h1 : l1.length = pg s.n) (h2 : l2.length = pg (pg s.n)) (h3 : ∀ i, i < (l1 ++ l2).length → (l1 ++ l2).getD i 0 < s.n ∧ s.cnt ((l1 ++ l2).getD i 0) = 1) (h4 : ∀ i j, i < (l1 ++ l2).length → j < (l1 ++ l2).length → i ≠ j → (l1 ++ l2).getD i 0 ≠ (l1 ++ l2).getD j 0) : RightS s (toI l1) (toI l2) := by
  refine ⟨by rw [length_toI]; exact h1, by rw [length_toI]; exact h2, fun i hi => ?_⟩
  rw [toI_app, length_toI] at hi
  rw [toI_app]
  refine .inr ⟨fun k hk e => ?_, ?_⟩
  · rw [toI_get, toI_get] at e
    exact h4 k i (by omega) hi (by omega) (by omega)
  · obtain ⟨k1, k2⟩ := h3 i hi
    rw [toI_get, getZ_nat s k1, k2]
    decide
theorem Sound.right (h : Sound q l1 l2) : RightS q.s (toI l1) (toI l2) := right_of h.len1 h.len2 (fun i hi => ⟨(h.one i hi).2.1, (h.one i hi).2.2.1⟩) h.ne
theorem Sound.base (h : Sound q l1 l2) : Base q (l1 ++ l2) := ⟨fun i hi _ => ⟨by rw [(h.one i hi).2.2.2]; decide, (h.one i hi).2.1⟩, by rw [h.first]; omega⟩
theorem Sound.ri (h : Sound q l1 l2) : (begin q l1 l2).RI q (l1 ++ l2) := begin_ri fun i hi _ => (h.one i hi).2.2.1
/-- Behind a run all pages stand. -/
theorem end_one (he : y.End) (hg : y.Good) (hr : y.RI q0 L0) (i : Nat) (hi : i < (y.l1 ++ y.l2).length) : (y.l1 ++ y.l2).getD i 0 ≠ 0 ∧ (y.l1 ++ y.l2).getD i 0 < y.q.s.n ∧ y.q.s.cnt ((y.l1 ++ y.l2).getD i 0) = 1 := by
  cases hF : (y.f1 ++ y.f2).getD i false
  · have hz : (y.l1 ++ y.l2).getD i 0 ≠ 0 := by
      intro e
      rcases Nat.lt_or_ge i y.l1.length with h | h
      · rw [getD_app1 _ _ _ h] at e
        rw [getD_app1 _ _ _ (by rw [hg.fl1]; exact h)] at hF
        exact he.one i ⟨h, hF, .inl e⟩
      · obtain ⟨j, rfl⟩ : ∃ j, i = y.l1.length + j := ⟨i - y.l1.length, by omega⟩
        rw [getD_app2] at e
        rw [← hg.fl1, getD_app2] at hF
        rw [List.length_append] at hi
        exact he.two j ⟨by omega, hF, .inl e⟩
    have hm := hg.loose.may i hi hF hz
    exact ⟨hz, hm.1, (hr.un i hi hF).2 hz⟩
  · have := hr.pl i hi hF
    exact ⟨this.1, this.2.1, this.2.2.1⟩
theorem end_ne (he : y.End) (hg : y.Good) (hr : y.RI q0 L0) (i j : Nat) (hi : i < (y.l1 ++ y.l2).length) (hj : j < (y.l1 ++ y.l2).length) (hne : i ≠ j) : (y.l1 ++ y.l2).getD i 0 ≠ (y.l1 ++ y.l2).getD j 0 := by
  cases hF : (y.f1 ++ y.f2).getD i false
  · cases hG : (y.f1 ++ y.f2).getD j false
    · exact hg.loose.ne i j hi hj hne hF hG (end_one he hg hr i hi).1
    · exact fun e => hr.ne j i hj hi (Ne.symm hne) hG e.symm
  · exact hr.ne i j hi hj hne hF
theorem end_right (he : y.End) (hg : y.Good) (hr : y.RI q0 L0) : RightS y.q.s (toI y.l1) (toI y.l2) :=
  right_of hg.len1 hg.len2 (fun i hi => (end_one he hg hr i hi).2) (end_ne he hg hr)
def Q.keep (q : Q) : Q := ⟨q.s.keep, q.first, q.next, q.asked⟩
theorem Q.Ok.keep (h : q.Ok) : (Q.keep q).Ok := ⟨h.s.keep, h.first, h.le, h.next, h.asked⟩
theorem end_sound (he : y.End) (hg : y.Good) (hr : y.RI q0 L0) (hf : q0.first = 2) : Sound (Q.keep y.q) y.l1 y.l2 :=
  ⟨Q.Ok.keep hg.ok, by show y.q.first = 2; rw [hr.first]; exact hf, hg.len1, hg.len2, fun i hi => (by
    obtain ⟨h1, h2, h3⟩ := end_one he hg hr i hi
    exact ⟨h1, h2, h3, h3⟩), end_ne he hg hr⟩
end
end Go.Proofs.Ytlemjegngnfanaa.Pl
