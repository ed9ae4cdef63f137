/- How pages are placed, step by step: mathematics of a work. No function of the program is walked. -/
import Derived.Test.YtlemjegngnfanaaPlM
namespace Go.Proofs.Ytlemjegngnfanaa.Pl
open Go.RowKit Go.Proofs.Ytlemjegngnfanaa.Oct Go.Proofs.Ytlemjegngnfanaa.Mv Go.Proofs.Ytlemjegngnfanaa.Tl Go.Proofs.Ytlemjegngnfanaa.Pk Go.Maps
set_option linter.unusedVariables false

/-! ### Pages that were not placed yet may go down, each by itself -/
def left (F : List Bool) : Nat := F.countP (fun x => !x)
structure Loose (q : Q) (L : List Nat) (F : List Bool) : Prop where
  len : F.length = L.length
  may : ∀ i, i < L.length → F.getD i false = false → May1 q (L.getD i 0)
  ne : ∀ i j, i < L.length → j < L.length → i ≠ j → F.getD i false = false → F.getD j false = false → L.getD i 0 ≠ 0 → L.getD i 0 ≠ L.getD j 0
  room : left F ≤ q.room
theorem getD_set {α : Type} (l : List α) (i j : Nat) (x d : α) : (l.set i x).getD j d = if j = i ∧ i < l.length then x else l.getD j d := by
  simp only [List.getD_eq_getElem?_getD, List.getElem?_set]
  by_cases e : i = j
  · subst e
    by_cases h : i < l.length
    · simp [h]
    · simp [h]
  · rw [if_neg e, if_neg (fun k => e k.1.symm)]
theorem left_set : ∀ (F : List Bool) (i : Nat), i < F.length → F.getD i false = false → left F = left (F.set i true) + 1
  | [], i, h, _ => absurd h (by simp)
  | x :: F, 0, _, h1 => by
    have : x = false := by simpa using h1
    subst this
    simp [left]
  | x :: F, i + 1, h, h1 => by
    have := left_set F i (by simpa using h) (by simpa using h1)
    unfold left at *
    rw [List.set_cons_succ, List.countP_cons, List.countP_cons, this]
    omega
theorem left_pos {F : List Bool} {i : Nat} (h : i < F.length) (h1 : F.getD i false = false) : 0 < left F := by
  have := left_set F i h h1
  omega
theorem Loose.move {q q' : Q} {L : List Nat} {F : List Bool} {i b : Nat} (h : Loose q L F) (hok : q.Ok) (hi : i < L.length) (hf : F.getD i false = false) (hm : Moved q (L.getD i 0) q' b) : Loose q' (L.set i b) (F.set i true) := by
  have may := h.may i hi hf
  refine ⟨by simp [h.len], fun j hj hF hz => ?_, fun j k hj hk hne hFj hFk => ?_, ?_⟩
  · rw [List.length_set] at hj
    rw [getD_set] at hF hz ⊢
    by_cases e : j = i
    · subst e
      rw [if_pos ⟨rfl, by rw [h.len]; exact hi⟩] at hF
      cases hF
    · rw [if_neg (fun k => e k.1)] at hF hz ⊢
      obtain ⟨h1, h2⟩ := h.may j hj hF hz
      refine ⟨by rw [hm.n may]; exact h1, ?_⟩
      rw [hm.cnt may]
      by_cases e2 : L.getD j 0 = b
      · rw [if_pos e2]; decide
      · rw [if_neg e2, down1_cnt may]
        rw [if_neg (fun k => h.ne j i hj hi e hF hf hz k.1)]
        exact h2
  · rw [List.length_set] at hj hk
    rw [getD_set] at hFj hFk
    have ej : j ≠ i := fun e => by
      rw [if_pos ⟨e, by rw [h.len]; exact hi⟩] at hFj
      cases hFj
    have ek : k ≠ i := fun e => by
      rw [if_pos ⟨e, by rw [h.len]; exact hi⟩] at hFk
      cases hFk
    rw [if_neg (fun k => ej k.1)] at hFj
    rw [if_neg (fun k => ek k.1)] at hFk
    rw [getD_set, getD_set, if_neg (fun k => ej k.1), if_neg (fun k => ek k.1)]
    exact h.ne j k hj hk hne hFj hFk
  · have h1 := left_set F i (by rw [h.len]; exact hi) hf
    have h2 := hm.room may hok
    have h3 := h.room
    omega

/-! ### A work -/
structure Wk where
  q : Q
  l1 : List Nat
  f1 : List Bool
  l2 : List Nat
  f2 : List Bool
def Wk.S1 (x : Wk) : Int → Prop := onP x.q.s.changed
def Wk.S2 (x : Wk) : Int → Prop := onP (doneL x.f1)
def Wk.mv1 (x : Wk) (i b : Nat) (q' : Q) : Wk := ⟨q', x.l1.set i b, x.f1.set i true, x.l2, x.f2⟩
def Wk.mv2 (x : Wk) (i b : Nat) (q' : Q) : Wk := ⟨q', x.l1, x.f1, x.l2.set i b, x.f2.set i true⟩
structure Wk.Good (x : Wk) : Prop where
  ok : x.q.Ok
  len1 : x.l1.length = pg x.q.s.n
  len2 : x.l2.length = pg (pg x.q.s.n)
  fl1 : x.f1.length = x.l1.length
  fl2 : x.f2.length = x.l2.length
  loose : Loose x.q (x.l1 ++ x.l2) (x.f1 ++ x.f2)
/-- Nothing is to be placed. -/
def noP (l : List Nat) (f : List Bool) (S : Int → Prop) : Prop := ∀ j, ¬ askP l f S j
inductive Wk.Step (x : Wk) : Wk → Prop where
  | one (i b : Nat) (q' : Q) : FirstP x.l1 x.f1 x.S1 i true → Moved x.q (x.l1.getD i 0) q' b → Wk.Step x (x.mv1 i b q')
  | two (i b : Nat) (q' : Q) : noP x.l1 x.f1 x.S1 → FirstP x.l2 x.f2 x.S2 i true → Moved x.q (x.l2.getD i 0) q' b → Wk.Step x (x.mv2 i b q')
structure Wk.End (x : Wk) : Prop where
  one : noP x.l1 x.f1 x.S1
  two : noP x.l2 x.f2 x.S2
inductive Wk.Runs : Wk → Wk → Prop where
  | done {x : Wk} : x.End → Wk.Runs x x
  | step {x y z : Wk} : x.Step y → Wk.Runs y z → Wk.Runs x z
theorem FirstP.one {l : List Nat} {f : List Bool} {S : Int → Prop} {i j : Nat} (h : FirstP l f S i true) (k : FirstP l f S j true) : i = j := by
  have h' : askP l f S i ∧ ∀ j, j < i → ¬ askP l f S j := h
  have k' : askP l f S j ∧ ∀ i, i < j → ¬ askP l f S i := k
  rcases Nat.lt_trichotomy i j with e | e | e
  · exact absurd h'.1 (k'.2 i e)
  · exact e
  · exact absurd k'.1 (h'.2 j e)
theorem FirstP.ask {l : List Nat} {f : List Bool} {S : Int → Prop} {i : Nat} (h : FirstP l f S i true) : askP l f S i := (show askP l f S i ∧ ∀ j, j < i → ¬ askP l f S j from h).1
theorem FirstP.none {l : List Nat} {f : List Bool} {S : Int → Prop} {i : Nat} (h : FirstP l f S i false) : noP l f S := (show i = 0 ∧ ∀ j, ¬ askP l f S j from h).2
theorem Wk.Step.uniq {x y z : Wk} (h : x.Step y) (k : x.Step z) : y = z := by
  cases h with
  | one i b q' h1 h2 =>
    cases k with
    | one j d q2 k1 k2 =>
      obtain rfl := h1.one k1
      obtain ⟨rfl, rfl⟩ := h2.one k2
      rfl
    | two j d q2 k0 k1 k2 => exact absurd h1.ask (k0 i)
  | two i b q' h0 h1 h2 =>
    cases k with
    | one j d q2 k1 k2 => exact absurd k1.ask (h0 j)
    | two j d q2 k0 k1 k2 =>
      obtain rfl := h1.one k1
      obtain ⟨rfl, rfl⟩ := h2.one k2
      rfl
theorem Wk.End.not {x y : Wk} (h : x.End) (k : x.Step y) : False := by
  cases k with
  | one i b q' k1 k2 => exact h.one i k1.ask
  | two i b q' k0 k1 k2 => exact h.two i k1.ask
theorem Wk.Runs.uniq {x y z : Wk} (h : x.Runs y) (k : x.Runs z) : y = z := by
  induction h with
  | done h =>
    cases k with
    | done _ => rfl
    | step s _ => exact (h.not s).elim
  | step s r ih =>
    cases k with
    | done e => exact (e.not s).elim
    | step s2 r2 => obtain rfl := s.uniq s2; exact ih r2

section
variable {x y z : Wk}
theorem getD_app1 {α : Type} (l m : List α) (d : α) {i : Nat} (h : i < l.length) : (l ++ m).getD i d = l.getD i d := by
  simp only [List.getD_eq_getElem?_getD]
  rw [List.getElem?_append_left h]
theorem getD_app2 {α : Type} (l m : List α) (d : α) (i : Nat) : (l ++ m).getD (l.length + i) d = m.getD i d := by
  simp only [List.getD_eq_getElem?_getD]
  rw [List.getElem?_append_right (by omega)]
  congr 2
  omega
theorem Wk.Good.may1 (h : x.Good) {i : Nat} (hi : i < x.l1.length) (hf : x.f1.getD i false = false) : May1 x.q (x.l1.getD i 0) := by
  have := h.loose.may i (by rw [List.length_append]; omega) (by rw [getD_app1 _ _ _ (by rw [h.fl1]; exact hi)]; exact hf)
  rwa [getD_app1 _ _ _ hi] at this
theorem Wk.Good.may2 (h : x.Good) {i : Nat} (hi : i < x.l2.length) (hf : x.f2.getD i false = false) : May1 x.q (x.l2.getD i 0) := by
  have := h.loose.may (x.l1.length + i) (by rw [List.length_append]; omega) (by rw [← h.fl1, getD_app2]; exact hf)
  rwa [getD_app2] at this
theorem Wk.Good.room1 (h : x.Good) {i : Nat} (hi : i < x.l1.length) (hf : x.f1.getD i false = false) : 0 < x.q.room :=
  Nat.lt_of_lt_of_le (left_pos (i := i) (by rw [List.length_append, h.fl1]; omega) (by rw [getD_app1 _ _ _ (by rw [h.fl1]; exact hi)]; exact hf)) h.loose.room
theorem Wk.Good.room2 (h : x.Good) {i : Nat} (hi : i < x.l2.length) (hf : x.f2.getD i false = false) : 0 < x.q.room :=
  Nat.lt_of_lt_of_le (left_pos (i := x.f1.length + i) (by rw [List.length_append, h.fl2]; omega) (by rw [getD_app2]; exact hf)) h.loose.room
theorem Wk.Good.step (h : x.Good) (k : x.Step y) : y.Good := by
  cases k with
  | one i b q' k1 k2 =>
    obtain ⟨hi, hf, _⟩ := k1.ask
    have hm := h.may1 hi hf
    refine ⟨k2.ok hm h.ok, ?_, ?_, ?_, h.fl2, ?_⟩
    · show (x.l1.set i b).length = pg q'.s.n
      rw [List.length_set, k2.n hm]; exact h.len1
    · show x.l2.length = pg (pg q'.s.n)
      rw [k2.n hm]; exact h.len2
    · show (x.f1.set i true).length = (x.l1.set i b).length
      rw [List.length_set, List.length_set]; exact h.fl1
    · show Loose q' (x.l1.set i b ++ x.l2) (x.f1.set i true ++ x.f2)
      rw [← List.set_append_left _ _ hi, ← List.set_append_left _ _ (by rw [h.fl1]; exact hi)]
      refine h.loose.move h.ok (by rw [List.length_append]; omega) (by rw [getD_app1 _ _ _ (by rw [h.fl1]; exact hi)]; exact hf) ?_
      rw [getD_app1 _ _ _ hi]; exact k2
  | two i b q' k0 k1 k2 =>
    obtain ⟨hi, hf, _⟩ := k1.ask
    have hm := h.may2 hi hf
    refine ⟨k2.ok hm h.ok, ?_, ?_, h.fl1, ?_, ?_⟩
    · show x.l1.length = pg q'.s.n
      rw [k2.n hm]; exact h.len1
    · show (x.l2.set i b).length = pg (pg q'.s.n)
      rw [List.length_set, k2.n hm]; exact h.len2
    · show (x.f2.set i true).length = (x.l2.set i b).length
      rw [List.length_set, List.length_set]; exact h.fl2
    · show Loose q' (x.l1 ++ x.l2.set i b) (x.f1 ++ x.f2.set i true)
      have e1 : x.l1 ++ x.l2.set i b = (x.l1 ++ x.l2).set (x.l1.length + i) b := by
        rw [List.set_append_right _ _ (by omega)]; congr 2; omega
      have e2 : x.f1 ++ x.f2.set i true = (x.f1 ++ x.f2).set (x.l1.length + i) true := by
        rw [List.set_append_right _ _ (by rw [h.fl1]; omega)]; congr 2; rw [h.fl1]; omega
      rw [e1, e2]
      refine h.loose.move h.ok (by rw [List.length_append]; omega) (by rw [← h.fl1, getD_app2]; exact hf) ?_
      rw [getD_app2]; exact k2
def Wk.left (x : Wk) : Nat := Pl.left (x.f1 ++ x.f2)
theorem Wk.Good.less (h : x.Good) (k : x.Step y) : x.left = y.left + 1 := by
  cases k with
  | one i b q' k1 k2 =>
    obtain ⟨hi, hf, _⟩ := k1.ask
    show Pl.left (x.f1 ++ x.f2) = Pl.left (x.f1.set i true ++ x.f2) + 1
    rw [← List.set_append_left _ _ (by rw [h.fl1]; exact hi)]
    exact left_set _ i (by rw [List.length_append, h.fl1]; omega) (by rw [getD_app1 _ _ _ (by rw [h.fl1]; exact hi)]; exact hf)
  | two i b q' k0 k1 k2 =>
    obtain ⟨hi, hf, _⟩ := k1.ask
    show Pl.left (x.f1 ++ x.f2) = Pl.left (x.f1 ++ x.f2.set i true) + 1
    have e2 : x.f1 ++ x.f2.set i true = (x.f1 ++ x.f2).set (x.f1.length + i) true := by
      rw [List.set_append_right _ _ (by omega)]; congr 2; omega
    rw [e2]
    exact left_set _ _ (by rw [List.length_append, h.fl2]; omega) (by rw [getD_app2]; exact hf)
end
end Go.Proofs.Ytlemjegngnfanaa.Pl
