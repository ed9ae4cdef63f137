/- What placing a page does to counts: mathematics of a pick. No function of the program is walked. -/
import Derived.Test.YtlemjegngnfanaaPlE
namespace Go.Proofs.Ytlemjegngnfanaa.Pl
open Go.RowKit Go.Proofs.Ytlemjegngnfanaa.Oct Go.Proofs.Ytlemjegngnfanaa.Mv Go.Proofs.Ytlemjegngnfanaa.Tl Go.Proofs.Ytlemjegngnfanaa.Pk Go.Maps
set_option linter.unusedVariables false

/-- The old block goes down. -/
def down1 (q : Q) (old : Nat) : Q := if old = 0 then q else ⟨(q.s.down (old : Int)).2, q.first, q.next, q.asked⟩
/-- A page that stood at old (0: nowhere) stands at b now. -/
def Moved (q : Q) (old : Nat) (q' : Q) (b : Nat) : Prop := (down1 q old).Found b ∧ q' = (down1 q old).took b
/-- An old block may go down. -/
def May1 (q : Q) (old : Nat) : Prop := old ≠ 0 → old < q.s.n ∧ q.s.cnt old ≠ 0
theorem down_is {s : St} {old : Nat} (h1 : old < s.n) (h2 : s.cnt old ≠ 0) : s.down (old : Int) = (0, s.put old (s.cnt old - 1)) := by
  unfold St.down
  rw [if_pos ⟨by omega, by omega⟩, Int.toNat_natCast, if_neg h2]
theorem down1_pos {q : Q} {old : Nat} (h0 : old ≠ 0) (h : May1 q old) : down1 q old = ⟨q.s.put old (q.s.cnt old - 1), q.first, q.next, q.asked⟩ := by
  unfold down1
  rw [if_neg h0, down_is (h h0).1 (h h0).2]
theorem down1_zero (q : Q) : down1 q 0 = q := by unfold down1; rw [if_pos rfl]
section
variable {q q' : Q} {old b : Nat}
theorem down1_n (h : May1 q old) : (down1 q old).s.n = q.s.n := by
  by_cases h0 : old = 0
  · subst h0; rw [down1_zero]
  · rw [down1_pos h0 h]; exact n_put _ _ _
theorem down1_cnt (h : May1 q old) (j : Nat) : (down1 q old).s.cnt j = if j = old ∧ old ≠ 0 then q.s.cnt j - 1 else q.s.cnt j := by
  by_cases h0 : old = 0
  · subst h0; rw [down1_zero, if_neg (by simp)]
  · rw [down1_pos h0 h]
    show (q.s.put old (q.s.cnt old - 1)).cnt j = _
    rw [cnt_put (h h0).1]
    by_cases e : j = old
    · subst e; rw [if_pos rfl, if_pos ⟨rfl, h0⟩]
    · rw [if_neg e, if_neg (fun k => e k.1)]
theorem down1_was (q : Q) (old : Nat) (h : May1 q old) (j : Nat) : (down1 q old).s.was j = q.s.was j := by
  by_cases h0 : old = 0
  · subst h0; rw [down1_zero]
  · rw [down1_pos h0 h]; rfl
theorem down1_kept (q : Q) (old : Nat) (h : May1 q old) : (down1 q old).s.kept = q.s.kept := by
  by_cases h0 : old = 0
  · subst h0; rw [down1_zero]
  · rw [down1_pos h0 h]; rfl
theorem down1_first (q : Q) (old : Nat) : (down1 q old).first = q.first := by unfold down1; split <;> rfl
theorem down1_asked (q : Q) (old : Nat) : (down1 q old).asked = q.asked := by unfold down1; split <;> rfl
theorem down1_ok (hok : q.Ok) (h : May1 q old) : (down1 q old).Ok := by
  by_cases h0 : old = 0
  · subst h0; rw [down1_zero]; exact hok
  · rw [down1_pos h0 h]
    exact ⟨hok.s.put _ _, by show q.first ≤ (q.s.put _ _).n; rw [n_put]; exact hok.first, hok.le, by show q.next < (q.s.put _ _).n ∨ _; rw [n_put]; exact hok.next, by show q.asked ≤ (q.s.put _ _).n; rw [n_put]; exact hok.asked⟩
/-- What was free is free. -/
theorem down1_free (h : May1 q old) (j : Nat) (hj : q.s.free j = true) : (down1 q old).s.free j = true := by
  unfold St.free at *
  rw [down1_cnt h, down1_was q old h]
  by_cases e : j = old ∧ old ≠ 0
  · obtain ⟨rfl, h0⟩ := e
    have := (h h0).2
    have h1 := (Bool.and_eq_true _ _ ▸ hj).1
    exact absurd (by simpa using h1) this
  · rw [if_neg e]; exact hj
theorem count_mono {s t : St} (f m : Nat) (h : ∀ j, s.free j = true → t.free j = true) : St.count s f m ≤ St.count t f m := by
  unfold St.count
  exact List.countP_mono_left fun a _ ha => h a ha
theorem down1_room (h : May1 q old) : q.room ≤ (down1 q old).room := by
  unfold Q.room
  rw [down1_n h, down1_first]
  exact count_mono _ _ (down1_free h)
theorem found_some (hok : q.Ok) (h : 0 < q.room) : ∃ b, q.Found b := by
  cases e : q.seek with
  | some b => exact ⟨b, seek_found hok e⟩
  | none =>
    have := (room_zero hok).2 (seek_none hok e)
    omega

/-! ### A page that has moved -/
theorem Moved.one {q1 q2 : Q} {b1 b2 : Nat} (h : Moved q old q1 b1) (k : Moved q old q2 b2) : q1 = q2 ∧ b1 = b2 := by
  have := found_one h.1 k.1
  subst this
  exact ⟨h.2.trans k.2.symm, rfl⟩
theorem Moved.n (h : Moved q old q' b) (hm : May1 q old) : q'.s.n = q.s.n := by rw [h.2, n_took, down1_n hm]
theorem Moved.lt (h : Moved q old q' b) (hm : May1 q old) : b < q.s.n := by rw [← down1_n hm]; exact h.1.1
theorem Moved.ok (h : Moved q old q' b) (hm : May1 q old) (hok : q.Ok) : q'.Ok := by rw [h.2]; exact (down1_ok hok hm).took h.1
theorem Moved.first (h : Moved q old q' b) : q'.first = q.first := by
  rw [h.2]
  exact down1_first q old
theorem Moved.asked (h : Moved q old q' b) : q'.asked = q.asked := by
  rw [h.2]
  exact down1_asked q old
theorem Moved.ge (h : Moved q old q' b) (hm : May1 q old) (hok : q.Ok) : q.first ≤ b := by
  have := h.1.lo (down1_ok hok hm)
  rwa [down1_first] at this
theorem Moved.kept (h : Moved q old q' b) (hm : May1 q old) : q'.s.kept = q.s.kept := by
  rw [h.2]
  exact down1_kept q old hm
theorem Moved.was (h : Moved q old q' b) (hm : May1 q old) (j : Nat) : q'.s.was j = q.s.was j := by
  unfold St.was
  rw [h.kept hm]
theorem Moved.cnt (h : Moved q old q' b) (hm : May1 q old) (j : Nat) : q'.s.cnt j = if j = b then 1 else (down1 q old).s.cnt j := by
  by_cases e : j = b
  · subst e
    rw [if_pos rfl, h.2]
    exact cnt_took h.1
  · rw [if_neg e, h.2]
    show ((down1 q old).s.put b _).cnt j = _
    rw [cnt_put h.1.1, if_neg e]
theorem Moved.room (h : Moved q old q' b) (hm : May1 q old) (hok : q.Ok) : q.room ≤ q'.room + 1 := by
  have h1 := down1_room hm
  have h2 := room_took (down1_ok hok hm) h.1
  rw [h.2]
  omega
theorem Moved.free (h : Moved q old q' b) : (down1 q old).s.cnt b = 0 ∧ (down1 q old).s.was b = 0 := by
  have := h.1.2.1
  unfold St.free at this
  have := Bool.and_eq_true _ _ ▸ this
  exact ⟨by simpa using this.1, by simpa using this.2⟩
/-- Where the old block is kept nothing more is free. -/
theorem Moved.room_le (h : Moved q old q' b) (hm : May1 q old) (hok : q.Ok) (hw : old ≠ 0 → q.s.was old ≠ 0) : q'.room ≤ q.room := by
  have h2 := room_took (down1_ok hok hm) h.1
  have h3 : (down1 q old).room ≤ q.room := by
    unfold Q.room
    rw [down1_n hm, down1_first]
    refine count_mono _ _ fun j hj => ?_
    unfold St.free at *
    rw [down1_cnt hm, down1_was q old hm] at hj
    by_cases e : j = old ∧ old ≠ 0
    · obtain ⟨rfl, h0⟩ := e
      have h4 := (Bool.and_eq_true _ _ ▸ hj).2
      exact absurd (by simpa using h4) (hw h0)
    · rwa [if_neg e] at hj
  rw [h.2]
  omega
end
end Go.Proofs.Ytlemjegngnfanaa.Pl
