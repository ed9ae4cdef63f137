/- A stage goes on: a block is taken, goes up, or down; all is placed anew. -/
import Derived.Test.YtlemjegngnfanaaPlU
namespace Go.Proofs.Ytlemjegngnfanaa.Pl
open Go.RowKit Go.Proofs.Ytlemjegngnfanaa.Oct Go.Proofs.Ytlemjegngnfanaa.Mv Go.Proofs.Ytlemjegngnfanaa.Tl Go.Proofs.Ytlemjegngnfanaa.Pk Go.Maps
set_option linter.unusedVariables false

section
variable {q q' : Q} {l1 l2 : List Nat} {b : Nat}
theorem Sound.cnt_ne (h : Sound q l1 l2) {i : Nat} (hi : i < (l1 ++ l2).length) {j : Nat} (hj : q.s.free j = true) : (l1 ++ l2).getD i 0 ≠ j := by
  intro e
  have h1 := (h.one i hi).2.2.1
  rw [e, cnt_free hj] at h1
  exact absurd h1 (by decide)
theorem Sound.took (h : Sound q l1 l2) (hb : q.Found b) : Sound (q.took b) l1 l2 :=
  ⟨h.ok.took hb, h.first, by rw [n_took]; exact h.len1, by rw [n_took]; exact h.len2, fun i hi => (by
    obtain ⟨k1, k2, k3, k4⟩ := h.one i hi
    exact ⟨k1, by rw [n_took]; exact k2, (by
      show (q.s.put b _).cnt _ = 1
      rw [cnt_put hb.1, if_neg (h.cnt_ne hi hb.2.1)]
      exact k3), k4⟩), h.ne⟩
/-- A count that is no page's has turned. -/
theorem Sound.put (h : Sound q l1 l2) (hb : b < q.s.n) (hn : b ∉ l1 ++ l2) (c : UInt16) : Sound ⟨q.s.put b c, q.first, q.next, q.asked⟩ l1 l2 :=
  ⟨⟨h.ok.s.put _ _, by show q.first ≤ (q.s.put _ _).n; rw [n_put]; exact h.ok.first, h.ok.le, by show q.next < (q.s.put _ _).n ∨ _; rw [n_put]; exact h.ok.next, by show q.asked ≤ (q.s.put _ _).n; rw [n_put]; exact h.ok.asked⟩, h.first, by show l1.length = pg (q.s.put _ _).n; rw [n_put]; exact h.len1, by show l2.length = pg (pg (q.s.put _ _).n); rw [n_put]; exact h.len2, fun i hi => (by
    obtain ⟨k1, k2, k3, k4⟩ := h.one i hi
    have hne : (l1 ++ l2).getD i 0 ≠ b := fun e => hn (by
      rw [← e, List.getD_eq_getElem?_getD, List.getElem?_eq_getElem hi]
      exact List.getElem_mem hi)
    exact ⟨k1, by show _ < (q.s.put _ _).n; rw [n_put]; exact k2, (by
      show (q.s.put b _).cnt _ = 1
      rw [cnt_put hb, if_neg hne]
      exact k3), k4⟩), h.ne⟩
end
/-- What was kept does not become free by placing. -/
theorem Wk.Step.room_le {x y : Wk} {q0 : Q} {L0 : List Nat} (h : x.Step y) (hg : x.Good) (hb : Base q0 L0) (hr : x.RI q0 L0) : y.q.room ≤ x.q.room := by
  cases h with
  | one i b q' k1 k2 =>
    obtain ⟨hi, hf, _⟩ := k1.ask
    have hi2 : i < (x.l1 ++ x.l2).length := by rw [List.length_append]; omega
    have hu := hr.un i hi2 (by rw [getD_app1 _ _ _ (by rw [hg.fl1]; exact hi)]; exact hf)
    rw [getD_app1 _ _ _ hi] at hu
    refine k2.room_le (hg.may1 hi hf) hg.ok fun hz => ?_
    rw [hr.was, hu.1]
    exact (hb.kept i (by rw [← hr.lenL]; exact hi2) (by rw [← hu.1]; exact hz)).1
  | two i b q' k0 k1 k2 =>
    obtain ⟨hi, hf, _⟩ := k1.ask
    have hi2 : x.l1.length + i < (x.l1 ++ x.l2).length := by rw [List.length_append]; omega
    have hu := hr.un (x.l1.length + i) hi2 (by rw [← hg.fl1, getD_app2]; exact hf)
    rw [getD_app2] at hu
    refine k2.room_le (hg.may2 hi hf) hg.ok fun hz => ?_
    rw [hr.was, hu.1]
    exact (hb.kept _ (by rw [← hr.lenL]; exact hi2) (by rw [← hu.1]; exact hz)).1
theorem Wk.Runs.room_le {x y : Wk} {q0 : Q} {L0 : List Nat} (h : x.Runs y) (hg : x.Good) (hb : Base q0 L0) (hr : x.RI q0 L0) : y.q.room ≤ x.q.room := by
  induction h with
  | done _ => exact Nat.le_refl _
  | step s r ih => exact Nat.le_trans (ih (hg.step s) (s.ri hg hb hr)) (s.room_le hg hb hr)
/-- A sound stage is placed anew. -/
structure Anew (q : Q) (l1 l2 : List Nat) (y : Wk) : Prop where
  runs : (begin q l1 l2).Runs y
  end' : y.End
  good : y.Good
  ri : y.RI q (l1 ++ l2)
  n : y.q.s.n = q.s.n
  len1 : y.l1.length = l1.length
  len2 : y.l2.length = l2.length
  room : y.q.room ≤ q.room
theorem Sound.anew {q : Q} {l1 l2 : List Nat} {y : Wk} (h : Sound q l1 l2) (hroom : need q.s.n ≤ q.room) (hr : (begin q l1 l2).Runs y) : Anew q l1 l2 y := by
  have hg := begin_good h.ok h.right hroom
  have hri := hr.ri hg h.base h.ri
  have hn := hri.n
  have hgy := hr.good hg
  exact ⟨hr, hr.end', hgy, hri, hn, by rw [hgy.len1, h.len1, hn], by rw [hgy.len2, h.len2, hn], hr.room_le hg h.base h.ri⟩
theorem Anew.sound {q : Q} {l1 l2 : List Nat} {y : Wk} (h : Anew q l1 l2 y) (hf : q.first = 2) : Sound (Q.keep y.q) y.l1 y.l2 := end_sound h.end' h.good h.ri hf
theorem Anew.right {q : Q} {l1 l2 : List Nat} {y : Wk} (h : Anew q l1 l2 y) : RightS y.q.s (toI y.l1) (toI y.l2) := end_right h.end' h.good h.ri

/-! ### In memory -/
section
variable {w w' : World} {D : Sd} {q q' : Q} {l1 l2 : List Nat} {y : Wk} {g1 g3 : Nat} {v1 v2 : Value}
theorem Stg.turnL (h : Stg w D q l1 l2) (hp : PAt w' D.p D.ta D.cb D.mb D.c q') (k : ButL w w' [D.cb, D.mb, D.p]) : Stg w' D q' l1 l2 :=
  h.turned hp k.to3
/-- What Place has told of a stage. -/
structure Told (w : World) (D : Sd) (l1 l2 : List Nat) (y : Wk) (g1 g3 : Nat) (v1 v2 : Value) : Prop where
  stg : Stg w D y.q l1 l2
  r1 : ∃ sp, RowV w g1 3 (ints y.l1 ++ sp)
  r3 : ∃ sp, RowV w g3 3 (ints y.l2 ++ sp)
  v1 : List64 w v1 (doneL y.f1)
  v2 : List64 w v2 (doneL y.f2)
theorem Told.kept (h : Told w D l1 l2 y g1 g3 v1 v2) (k : Below w.heap.size w w') : Told w' D l1 l2 y g1 g3 v1 v2 :=
  ⟨h.stg.kept k, ex_below h.r1 k, ex_below h.r3 k, h.v1.still k, h.v2.still k⟩
theorem ex_but {g r : Nat} {T U : TypeId} {vs us : List Value} (h : ∃ sp, RowV w g T (vs ++ sp)) (hr : RowV w r U us) (hT : T ≠ U) (k : ButL w w' [r]) : ∃ sp, RowV w' g T (vs ++ sp) := by
  obtain ⟨sp, h1⟩ := h
  exact ⟨sp, h1.block (k.block _ h1.lt (by simp; exact row_ne h1 hr hT))⟩
/-- A sheet's variable is written. -/
theorem Stg.box {r : Nat} {us : List Value} (h : Stg w D q l1 l2) (hr : RowV w r 42 us) (k : ButL w w' [r]) : Stg w' D q l1 l2 := by
  have f := PAt.off h.pat hr (by decide) (by decide) (by decide)
  exact ⟨h.row.block (k.block _ h.row.lt (by simp; exact row_ne h.row hr (by decide))), h.pat.blocks (k.block _ h.pat.row.lt (by simp; exact Ne.symm f.1)) (k.block _ h.pat.tally.row.lt (by simp; exact Ne.symm f.2.1)) (k.block _ h.pat.tally.cb_lt (by simp; exact Ne.symm f.2.2.1)) (k.block _ h.pat.tally.mp.lt (by simp; exact Ne.symm f.2.2.2)), ex_but h.r1 hr (by decide) k, ex_but h.r2 hr (by decide) k⟩
theorem Told.box {r : Nat} {a1 a2 : Option Addr} {n1 n2 c1 c2 : Nat} (h : Told w D l1 l2 y g1 g3 v1 v2) (hr : RowV w r 42 [.slice a1 n1 c1, .slice a2 n2 c2]) (k : ButL w w' [r]) : Told w' D l1 l2 y g1 g3 v1 v2 :=
  ⟨h.stg.box hr k, ex_but h.r1 hr (by decide) k, ex_but h.r3 hr (by decide) k, List64.but h.v1 hr k, List64.but h.v2 hr k⟩
end
theorem place_less {w : World} {p ta cb mb c : Nat} {q : Q} (hq : PAt w p ta cb mb c q) {A1 A2 : Option Addr} {c1 c2 : Nat} {l1 l2 : List Nat} (h1 : ToldV w A1 (ints l1)) (h2 : ToldV w A2 (ints l2)) (hyes : RightS q.s (toI l1) (toI l2)) (hroom : q.room < need q.s.n) :
    Calls Try.prog 22 #[.pointer (some ⟨ta, 0, none⟩), .pointer (some ⟨p, 0, none⟩), shv A1 A2 l1.length l2.length c1 c2] w fun e w' => e = .returned (noV 90) ∧ Below w.heap.size w w' := by
  have hb := right_lt hyes hq.ok.s.hi
  have := place_space hq (c1 := c1) (c2 := c2) (l1 := toI l1) (l2 := toI l2) (by rw [zs_toI]; exact h1) (by rw [zs_toI]; exact h2) (R64.toI fun m hm => by have := hb.1 m hm; omega) (R64.toI fun m hm => by have := hb.2 m hm; omega) hyes hroom
  rw [length_toI, length_toI] at this
  exact this
end Go.Proofs.Ytlemjegngnfanaa.Pl
