/- What a stage that is placed anew is like: which pages were placed, and that all else is as it was. -/
import Derived.Test.YtlemjegngnfanaaPlY
namespace Go.Proofs.Ytlemjegngnfanaa.Pl
open Go.RowKit Go.Proofs.Ytlemjegngnfanaa.Oct Go.Proofs.Ytlemjegngnfanaa.Mv Go.Proofs.Ytlemjegngnfanaa.Tl Go.Proofs.Ytlemjegngnfanaa.Pk Go.Maps
set_option linter.unusedVariables false

section
variable {q : Q} {l1 l2 : List Nat} {x y z : Wk}
theorem done_nil {f : List Bool} (h : ∀ i, f.getD i false = false) : doneL f = [] := by
  rcases hd : doneL f with _ | ⟨i, l⟩
  · rfl
  · have := mem_done.1 (show i ∈ doneL f by rw [hd]; exact List.mem_cons_self ..)
    rw [h] at this
    cases this
theorem set_true {f : List Bool} {i j : Nat} (h : f.getD j false = true) : (f.set i true).getD j false = true := by
  rw [getD_set]
  split
  · rfl
  · exact h
theorem Wk.Step.mono1 (h : x.Step y) {j : Nat} (k : x.f1.getD j false = true) : y.f1.getD j false = true := by
  cases h with
  | one i b q' k1 k2 => exact set_true k
  | two i b q' k0 k1 k2 => exact k
theorem Wk.Runs.mono1 (h : x.Runs y) {j : Nat} (k : x.f1.getD j false = true) : y.f1.getD j false = true := by
  induction h with
  | done _ => exact k
  | step s r ih => exact ih (s.mono1 k)
theorem Sound.begin_end (h : Sound q l1 l2) (hc : q.s.changed = []) : (begin q l1 l2).End := by
  constructor
  · intro j hj
    obtain ⟨h1, _, h2⟩ := hj
    have h1' : j < l1.length := h1
    rcases h2 with h2 | ⟨m, hm, _⟩
    · have := (h.one j (by rw [List.length_append]; omega)).1
      rw [getD_app1 _ _ _ h1'] at this
      exact this h2
    · rw [show (begin q l1 l2).q = q from rfl, hc] at hm
      cases hm
  · intro j hj
    obtain ⟨h1, _, h2⟩ := hj
    have h1' : j < l2.length := h1
    rcases h2 with h2 | ⟨m, hm, _⟩
    · have := (h.one (l1.length + j) (by rw [List.length_append]; omega)).1
      rw [getD_app2] at this
      exact this h2
    · have := mem_done.1 hm
      rw [show (begin q l1 l2).f1 = List.replicate l1.length false from rfl, getD_rep] at this
      cases this
theorem Sound.same (h : Sound q l1 l2) (hc : q.s.changed = []) (hr : (begin q l1 l2).Runs y) : y = begin q l1 l2 := hr.uniq (.done (h.begin_end hc))
theorem begin_done : doneL (begin q l1 l2).f1 = [] ∧ doneL (begin q l1 l2).f2 = [] := ⟨done_nil fun i => getD_rep _ _, done_nil fun i => getD_rep _ _⟩
theorem Anew.lt1 (h : Anew q l1 l2 y) {i : Nat} (hi : i ∈ doneL y.f1) : i < l1.length := by
  have := mem_done_lt hi
  rw [h.good.fl1, h.len1] at this
  exact this
/-- A page that was placed. -/
theorem Anew.placed (h : Anew q l1 l2 y) (hs : Sound q l1 l2) {i : Nat} (hi : i ∈ doneL y.f1) : y.l1.getD i 0 ≠ l1.getD i 0 ∧ y.l1.getD i 0 < y.q.s.n ∧ l1.getD i 0 < y.q.s.n ∧ y.q.s.cnt (y.l1.getD i 0) = 1 ∧ y.q.s.cnt (l1.getD i 0) = 0 := by
  have hlt := h.lt1 hi
  have hy : i < y.l1.length := by rw [h.len1]; exact hlt
  have ho := hs.one i (by rw [List.length_append]; omega)
  rw [getD_app1 _ _ _ hlt] at ho
  have hp := h.ri.pl i (by rw [List.length_append]; omega) (by rw [getD_app1 _ _ _ (by rw [h.good.fl1]; exact hy)]; exact mem_done.1 hi)
  rw [getD_app1 _ _ _ hy, getD_app1 _ _ _ hlt] at hp
  refine ⟨fun e => ?_, hp.2.1, by rw [h.n]; exact ho.2.1, hp.2.2.1, hp.2.2.2.2 ho.1⟩
  have h1 := hp.2.2.2.1
  rw [e, h.ri.was, ho.2.2.2] at h1
  exact absurd h1 (by decide)
/-- A page that was not. -/
theorem Anew.stays (h : Anew q l1 l2 y) {i : Nat} (hi : i < l1.length) (hn : i ∉ doneL y.f1) : y.l1.getD i 0 = l1.getD i 0 := by
  have hy : i < y.l1.length := by rw [h.len1]; exact hi
  have hf : y.f1.getD i false = false := by
    rcases hb : y.f1.getD i false with _ | _
    · rfl
    · exact absurd (mem_done.2 hb) hn
  have hu := (h.ri.un i (by rw [List.length_append]; omega) (by rw [getD_app1 _ _ _ (by rw [h.good.fl1]; exact hy)]; exact hf)).1
  rw [getD_app1 _ _ _ hy, getD_app1 _ _ _ hi] at hu
  exact hu
/-- Where something has changed. -/
theorem Anew.tells (h : Anew q l1 l2 y) {m : Nat} (hm : m ∈ y.q.s.changed) : m / 61 ∈ doneL y.f1 := by
  have hlt := (mem_changed.1 hm).1
  have hl : m / 61 < y.l1.length := by rw [h.good.len1]; unfold pg; omega
  rcases hb : y.f1.getD (m / 61) false with _ | _
  · exact absurd ⟨hl, hb, .inr ⟨m, hm, rfl⟩⟩ (h.end'.one (m / 61))
  · exact mem_done.2 hb
theorem Anew.none (h : Anew q l1 l2 y) (hs : Sound q l1 l2) (hc : q.s.changed = []) : doneL y.f1 = [] ∧ doneL y.f2 = [] := by
  rw [hs.same hc h.runs]
  exact begin_done
theorem Anew.some (h : Anew q l1 l2 y) (hs : Sound q l1 l2) (hc : q.s.changed ≠ []) : doneL y.f1 ≠ [] ∧ doneL y.f2 ≠ [] := by
  obtain ⟨m, l, hml⟩ : ∃ m l, q.s.changed = m :: l := by
    rcases hq : q.s.changed with _ | ⟨m, l⟩
    · exact absurd hq hc
    · exact ⟨m, l, rfl⟩
  have hm : m ∈ q.s.changed := by rw [hml]; exact List.mem_cons_self ..
  have hlt := (mem_changed.1 hm).1
  have hask : askP (begin q l1 l2).l1 (begin q l1 l2).f1 (begin q l1 l2).S1 (m / 61) := ⟨by show m / 61 < l1.length; rw [hs.len1]; unfold pg; omega, getD_rep _ _, .inr ⟨m, hm, rfl⟩⟩
  have h1 : ∃ i, y.f1.getD i false = true := by
    have hfx : ∀ i, i < (begin q l1 l2).l1.length → i < (begin q l1 l2).f1.length := fun i hi => by
      show i < (List.replicate l1.length false).length
      rw [List.length_replicate]
      exact hi
    have hx := h.runs
    generalize begin q l1 l2 = x at *
    cases hx with
    | done he => exact absurd hask (he.one _)
    | step s r =>
      cases s with
      | one i b q' k1 k2 =>
        refine ⟨i, Wk.Runs.mono1 r ?_⟩
        show (x.f1.set i true).getD i false = true
        rw [getD_set, if_pos ⟨rfl, hfx i k1.ask.1⟩]
      | two i b q' k0 k1 k2 => exact absurd hask (k0 _)
  obtain ⟨i, hi⟩ := h1
  have hi1 := mem_done.2 hi
  refine ⟨fun e => (by rw [e] at hi1; cases hi1), fun e => ?_⟩
  have hil := h.lt1 hi1
  have hl2 : i / 61 < y.l2.length := by
    rw [h.good.len2]
    rw [hs.len1, ← h.n] at hil
    generalize pg y.q.s.n = p at *
    unfold pg
    omega
  rcases hb : y.f2.getD (i / 61) false with _ | _
  · exact h.end'.two (i / 61) ⟨hl2, hb, .inr ⟨i, hi1, rfl⟩⟩
  · have := mem_done.2 hb
    rw [e] at this
    cases this
end
/-- Which of the first seven pages have moved. -/
def mvd (l : List Nat) : List Bool := (List.range 7).map fun i => decide (i ∈ l)
theorem length_mvd (l : List Nat) : (mvd l).length = 7 := by simp [mvd]
theorem mvd_at (l : List Nat) {i : Nat} (h : i < 7) : (bools (mvd l))[i]? = some (.bool (decide (i ∈ l))) := by simp [bools, mvd, h]
theorem mvd_nil : bools (mvd []) = [.bool false, .bool false, .bool false, .bool false, .bool false, .bool false, .bool false] := rfl
theorem mvd_set (l : List Nat) {i : Nat} (h : i < 7) : (bools (mvd l)).set i (.bool true) = bools (mvd (l ++ [i])) := by
  apply List.ext_getElem?
  intro j
  by_cases hj : j < 7
  · rw [mvd_at _ hj, List.getElem?_set]
    split
    · rename_i e
      subst e
      simp [bools, mvd, h]
    · rename_i e
      rw [mvd_at _ hj]
      simp [Ne.symm e]
  · rw [List.getElem?_eq_none (by simp [bools, mvd]; omega), List.getElem?_eq_none (by simp [bools, mvd]; omega)]
theorem mvd_take (l : List Nat) {k : Nat} (hk : k < l.length) : mvd (l.take k ++ [l.getD k 0]) = mvd (l.take (k + 1)) := by
  rw [List.take_add_one, List.getElem?_eq_getElem hk, List.getD_eq_getElem?_getD, List.getElem?_eq_getElem hk]
  rfl
/-! ### What the walk wants -/
theorem list_told {w : World} {A : Option Addr} {n c : Nat} {l : List Nat} (h : List64 w (.slice A n c) l) : n = l.length ∧ ToldV w A (ints l) := by
  obtain ⟨A2, c2, e, k⟩ := h
  simp only [Value.slice.injEq] at e
  obtain ⟨rfl, rfl, rfl⟩ := e
  exact ⟨rfl, k⟩
theorem get_one {w : World} {a cb mb c : Nat} {s : St} (h : At w a cb mb c s) (i : Nat) (hi : i < s.n) (hc : s.cnt i = 1) :
    Calls Try.prog 26 #[.pointer (some ⟨a, 0, none⟩), .int .i64 (i : Int)] w fun e w' => e = .returned (.int .i64 1) ∧ w = w' := by
  have := get_yes h i hi
  rw [hc] at this
  exact this
theorem get_nil {w : World} {a cb mb c : Nat} {s : St} (h : At w a cb mb c s) (i : Nat) (hi : i < s.n) (hc : s.cnt i = 0) :
    Calls Try.prog 26 #[.pointer (some ⟨a, 0, none⟩), .int .i64 (i : Int)] w fun e w' => e = .returned (.int .i64 0) ∧ w = w' := by
  have := get_yes h i hi
  rw [hc] at this
  exact this
theorem right_is {w : World} {a cb mb c : Nat} {s : St} (h : At w a cb mb c s) {A1 A2 : Option Addr} {c1 c2 n m : Nat} {l1 l2 : List Nat} (h1 : ToldV w A1 (ints l1)) (h2 : ToldV w A2 (ints l2)) (hr : RightS s (toI l1) (toI l2)) (hn : l1.length = n) (hm : l2.length = m) :
    Calls Try.prog 33 #[.pointer (some ⟨a, 0, none⟩), shv A1 A2 n m c1 c2] w fun e w' => e = .returned (.bool true) ∧ Below w.heap.size w w' := by
  subst hn hm
  exact right_yes h h1 h2 hr
theorem told_bool {w w' : World} {A : Option Addr} {l : List Nat} {r : Nat} {T : TypeId} {f : List Bool} (h : ToldV w A (ints l)) (hr : RowV w r T (bools f)) (k : ButL w w' [r]) : ToldV w' A (ints l) := by
  rcases h with ht | ⟨b, o, rfl, hs⟩
  · exact .inl ht
  · by_cases h0 : 0 < (ints l).length
    · refine .inr ⟨b, o, rfl, hs.block (k.block b (hs.lt h0) ?_)⟩
      have hne : b ≠ r := by
        rintro rfl
        have h1 := hs 0 h0
        unfold RowV at hr
        rcases l with _ | ⟨m, l⟩
        · cases h0
        · simp only [World.cell?, hr, Nat.add_zero] at h1
          simp [bools, ints] at h1
      simp
      exact hne
    · exact .inl (List.eq_nil_of_length_eq_zero (by omega))
section
variable {w w' : World} {D : Sd} {q : Q} {l1 l2 : List Nat} {y : Wk} {g1 g3 : Nat} {v1 v2 : Value} {g : Nat} {T : TypeId} {us : List Value} {f : List Bool}
theorem Stg.off (h : Stg w D q l1 l2) (hr : RowV w g T us) (k : ButL w w' [g]) (t1 : T ≠ 85) (t2 : T ≠ 80) (t3 : T ≠ 22) (t4 : T ≠ 3) (t5 : T ≠ 69) : Stg w' D q l1 l2 := by
  have f := PAt.off h.pat hr t1 t2 t3
  exact ⟨h.row.block (k.block _ h.row.lt (by simp; exact row_ne h.row hr (Ne.symm t5))), h.pat.blocks (k.block _ h.pat.row.lt (by simp; exact Ne.symm f.1)) (k.block _ h.pat.tally.row.lt (by simp; exact Ne.symm f.2.1)) (k.block _ h.pat.tally.cb_lt (by simp; exact Ne.symm f.2.2.1)) (k.block _ h.pat.tally.mp.lt (by simp; exact Ne.symm f.2.2.2)), ex_but h.r1 hr (Ne.symm t4) k, ex_but h.r2 hr (Ne.symm t4) k⟩
theorem list_bool {v : Value} {l : List Nat} (h : List64 w v l) (hr : RowV w g T (bools f)) (k : ButL w w' [g]) : List64 w' v l := by
  obtain ⟨A, c, rfl, h1⟩ := h
  exact ⟨A, c, rfl, told_bool h1 hr k⟩
theorem Told.bool (h : Told w D l1 l2 y g1 g3 v1 v2) (hr : RowV w g T (bools f)) (k : ButL w w' [g]) (t1 : T ≠ 85) (t2 : T ≠ 80) (t3 : T ≠ 22) (t4 : T ≠ 3) (t5 : T ≠ 69) : Told w' D l1 l2 y g1 g3 v1 v2 :=
  ⟨h.stg.off hr k t1 t2 t3 t4 t5, ex_but h.r1 hr (Ne.symm t4) k, ex_but h.r3 hr (Ne.symm t4) k, list_bool h.v1 hr k, list_bool h.v2 hr k⟩
/-- Its tally is kept. -/
theorem Told.keep (h : Told w D l1 l2 y g1 g3 v1 v2) (hat : At w' D.ta D.cb D.mb D.c y.q.s.keep) (hb : But w w' D.cb D.mb) : Stg w' D (Q.keep y.q) l1 l2 ∧ (∃ sp, RowV w' g1 3 (ints y.l1 ++ sp)) ∧ (∃ sp, RowV w' g3 3 (ints y.l2 ++ sp)) := by
  have hr : ∀ {g : Nat} {l : List Nat}, (∃ sp, RowV w g 3 (ints l ++ sp)) → ∃ sp, RowV w' g 3 (ints l ++ sp) := by
    rintro g l ⟨sp, k⟩
    have f6 := PAt.off h.stg.pat k (by decide) (by decide) (by decide)
    exact ⟨sp, k.block (hb.block _ k.lt f6.2.2.1 f6.2.2.2)⟩
  have f5 := PAt.off h.stg.pat h.stg.row (by decide) (by decide) (by decide)
  exact ⟨⟨h.stg.row.block (hb.block _ h.stg.row.lt f5.2.2.1 f5.2.2.2), h.stg.pat.turned hat hb rfl, hr h.stg.r1, hr h.stg.r2⟩, hr h.r1, hr h.r3⟩
theorem Stg.sheet (h : Stg w D q l1 l2) {m1 m2 : List Nat} {s1 d1 s3 d3 : Nat} (hn : m1.length = l1.length) (hm : m2.length = l2.length) (r1 : ∃ sp, RowV w s1 3 (ints m1 ++ sp)) (r3 : ∃ sp, RowV w s3 3 (ints m2 ++ sp)) : Stg ((w.setCell ⟨D.X, 2, none⟩ (.slice (some ⟨s1, 0, none⟩) l1.length d1)).setCell ⟨D.X, 3, none⟩ (.slice (some ⟨s3, 0, none⟩) l2.length d3)) ⟨D.X, D.p, D.ta, D.cb, D.mb, D.c, s1, d1, s3, d3⟩ q m1 m2 := by
  have k := (ButL.set w D.X 2 (.slice (some ⟨s1, 0, none⟩) l1.length d1)).trans (ButL.set _ D.X 3 (.slice (some ⟨s3, 0, none⟩) l2.length d3))
  have f := PAt.off h.pat h.row (by decide) (by decide) (by decide)
  refine ⟨?_, h.pat.blocks (k.block _ h.pat.row.lt (by simp; exact Ne.symm f.1)) (k.block _ h.pat.tally.row.lt (by simp; exact Ne.symm f.2.1)) (k.block _ h.pat.tally.cb_lt (by simp; exact Ne.symm f.2.2.1)) (k.block _ h.pat.tally.mp.lt (by simp; exact Ne.symm f.2.2.2)), ex_but r1 h.row (by decide) k, ex_but r3 h.row (by decide) k⟩
  rw [hn, hm]
  exact (h.row.set 2 _).set 3 _
end
end Go.Proofs.Ytlemjegngnfanaa.Pl
