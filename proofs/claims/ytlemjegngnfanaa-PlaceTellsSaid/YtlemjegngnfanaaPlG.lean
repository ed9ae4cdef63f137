/- A step of placing. (Written by bin/gen_plstep.py.) -/
import Derived.Test.YtlemjegngnfanaaPlF
import Derived.Laws.EntriesVeiled
namespace Go.Proofs.Ytlemjegngnfanaa.Pl
open Go.RowKit Go.Proofs.Ytlemjegngnfanaa.Oct Go.Proofs.Ytlemjegngnfanaa.Mv Go.Proofs.Ytlemjegngnfanaa.Tl Go.Proofs.Ytlemjegngnfanaa.Pk Go.Maps
set_option linter.unusedVariables false

/-- Where all that a Place has at hand lies. -/
structure Adr where
  W : Nat
  ta : Nat
  cb : Nat
  mb : Nat
  c : Nat
  p : Nat
  g1 : Nat
  g2 : Nat
  g3 : Nat
  g4 : Nat
  c1 : Nat
  c2 : Nat
  c3 : Nat
  c4 : Nat
def wcells (A : Adr) (n m : Nat) : List Value := [.pointer (some ⟨A.ta, 0, none⟩), .pointer (some ⟨A.p, 0, none⟩), .slice (some ⟨A.g1, 0, none⟩) n A.c1, .slice (some ⟨A.g2, 0, none⟩) n A.c2, .slice (some ⟨A.g3, 0, none⟩) m A.c3, .slice (some ⟨A.g4, 0, none⟩) m A.c4]
structure WkAt (w : World) (A : Adr) (B : Nat) (x : Wk) : Prop where
  row : RowV w A.W 94 (wcells A x.l1.length x.l2.length)
  pat : PAt w A.p A.ta A.cb A.mb A.c x.q
  pg1 : PgAt w A.g1 A.g2 A.c1 A.c2 B x.l1 x.f1
  pg2 : PgAt w A.g3 A.g4 A.c3 A.c4 B x.l2 x.f2
  ne13 : A.g1 ≠ A.g3
  ne24 : A.g2 ≠ A.g4
theorem WkAt.kept {w w' : World} {A : Adr} {B : Nat} {x : Wk} (h : WkAt w A B x) (k : Below w.heap.size w w') : WkAt w' A B x :=
  ⟨h.row.below h.row.lt k, h.pat.kept k, h.pg1.kept k, h.pg2.kept k, h.ne13, h.ne24⟩
def Adr.list (A : Adr) : List Nat := [A.cb, A.mb, A.p, A.g1, A.g2, A.g3, A.g4]
theorem mem_done_lt {f : List Bool} {i : Nat} (h : i ∈ doneL f) : i < f.length := by
  unfold doneL doneK at h
  have := List.mem_range.1 (List.mem_filter.1 h).1
  exact this
theorem mem_changed {s : St} {i : Nat} : i ∈ s.changed ↔ i < s.n ∧ s.moved i = true := by
  unfold St.changed
  rw [List.mem_filter, List.mem_range]
def StepOut (A : Adr) (B : Nat) (x : Wk) (w : World) (e : Ending) (w' : World) : Prop := ∃ ok y, e = .returned (.bool ok) ∧ (ok = true → x.Step y) ∧ (ok = false → x.End ∧ y = x) ∧ WkAt w' A B y ∧ ButL w w' A.list

theorem funs_zero (w : World) : (zeroValue 110).run Try.prog w = .ok (.agg #[.nilFunc, .nilFunc]) w := by kernel_rfl
theorem changed_few {x : Wk} (h : x.Good) : x.q.s.changed.length ≤ 4096 ∧ ∀ m ∈ x.q.s.changed, m ≤ 4096 :=
  ⟨few_changed h.ok.s, fun m hm => by have h1 : m < x.q.s.n := (mem_changed.1 hm).1; have h2 : x.q.s.n ≤ 4096 := h.ok.s.hi; omega⟩
theorem Wk.Good.f1_le {x : Wk} (h : x.Good) : x.f1.length ≤ 4096 := by
  have h1 := pg_le (n := x.q.s.n) h.ok.s.hi
  rw [h.fl1, h.len1]; omega
theorem Wk.Good.l2_le {x : Wk} (h : x.Good) : x.l2.length ≤ 4096 := by
  have h1 := pg_le (n := x.q.s.n) h.ok.s.hi
  have h2 := pg_le (n := pg x.q.s.n) (by omega)
  rw [h.len2]; omega
theorem Wk.Good.l1_le {x : Wk} (h : x.Good) : x.l1.length ≤ 4096 := by rw [← h.fl1]; exact h.f1_le
theorem done_few {x : Wk} (h : x.Good) : (doneL x.f1).length ≤ 4096 ∧ ∀ m ∈ doneL x.f1, m ≤ 4096 :=
  ⟨Nat.le_trans (done_le _ _) h.f1_le, fun m hm => by have h1 := mem_done_lt hm; have h2 := h.f1_le; omega⟩
theorem PgAt.row {w : World} {g1 g2 c1 c2 B : Nat} {l : List Nat} {f : List Bool} (h : PgAt w g1 g2 c1 c2 B l f) : (∃ sp, RowV w g1 3 (ints l ++ sp)) ∧ (∃ sp, RowV w g2 4 (bools f ++ sp)) := ⟨h.at', h.pl⟩
theorem done_eq {w : World} {g2 n m c2 : Nat} {f : List Bool} {sp2 : List Value} {c1 : Nat} {g1 : Option Addr} (h2 : RowV w g2 4 (bools f ++ sp2)) (hn : f.length = m) (hf : f.length ≤ 4096) :
    Calls Try.prog 48 #[.agg #[.slice g1 n c1, .slice (some ⟨g2, 0, none⟩) m c2]] w fun e w' => ∃ v, e = .returned v ∧ List64 w' v (doneL f) ∧ Below w.heap.size w w' := by
  subst hn
  exact done_any h2 hf
theorem Tells.but {w w' : World} {v : Value} {B r : Nat} {S : Int → Prop} {T : TypeId} {u : Value} (h : Tells w v B S) (hr : RowV w r T [.nilFunc, u]) (k : ButL w w' [r]) : Tells w' v B S := by
  obtain ⟨x, sb, n, h1, h2, h3, h4, h5, h6⟩ := h.out
  have nx : x ≠ r := fun e => by
    subst e
    have := hr.cellAt (i := 0) rfl
    rw [h5] at this
    cases this
  have ns : sb ≠ r := fun e => by
    subst e
    obtain ⟨D, ⟨es, clock, hb, _⟩, _⟩ := h6
    unfold RowV at hr
    rw [hb] at hr
    cases hr
  exact ⟨x, sb, n, h1, h2, h3, Nat.lt_of_lt_of_le h4 k.size, (World.cell?_of_block (k.block x h4 (by simp; exact nx))).trans h5, h6.block (k.block sb h6.lt (by simp; exact ns))⟩
section
variable {w w' : World} {A : Adr} {B : Nat} {x : Wk} {i b : Nat} {q' : Q}
theorem WkAt.farW (h : WkAt w A B x) : A.W ≠ A.p ∧ A.W ≠ A.ta ∧ A.W ≠ A.cb ∧ A.W ≠ A.mb := PAt.off h.pat h.row (by decide) (by decide) (by decide)
theorem PgAt.far1 {g1 g2 c1 c2 p a cb mb c : Nat} {l : List Nat} {f : List Bool} {q : Q} (h : PgAt w g1 g2 c1 c2 B l f) (k : PAt w p a cb mb c q) : g1 ≠ p ∧ g1 ≠ a ∧ g1 ≠ cb ∧ g1 ≠ mb := by
  obtain ⟨sp, h1⟩ := h.at'
  exact PAt.off k h1 (by decide) (by decide) (by decide)
theorem PgAt.far2 {g1 g2 c1 c2 p a cb mb c : Nat} {l : List Nat} {f : List Bool} {q : Q} (h : PgAt w g1 g2 c1 c2 B l f) (k : PAt w p a cb mb c q) : g2 ≠ p ∧ g2 ≠ a ∧ g2 ≠ cb ∧ g2 ≠ mb := by
  obtain ⟨sp, h1⟩ := h.pl
  exact PAt.off k h1 (by decide) (by decide) (by decide)
theorem PgAt.cross {g1 g2 c1 c2 g3 g4 c3 c4 B2 : Nat} {l m : List Nat} {f e : List Bool} (h : PgAt w g1 g2 c1 c2 B l f) (k : PgAt w g3 g4 c3 c4 B2 m e) : g1 ≠ g4 := by
  obtain ⟨sp, h1⟩ := h.at'
  obtain ⟨sp2, h2⟩ := k.pl
  exact row_ne h1 h2 (by decide)
theorem PgAt.row_far {g1 g2 c1 c2 W : Nat} {l : List Nat} {f : List Bool} {vs : List Value} (h : PgAt w g1 g2 c1 c2 B l f) (k : RowV w W 94 vs) : W ≠ g1 ∧ W ≠ g2 := by
  obtain ⟨sp, h1⟩ := h.at'
  obtain ⟨sp2, h2⟩ := h.pl
  exact ⟨row_ne k h1 (by decide), row_ne k h2 (by decide)⟩
theorem WkAt.mv1 (h : WkAt w A B x) (hp : PAt w' A.p A.ta A.cb A.mb A.c q') (hg : PgAt w' A.g1 A.g2 A.c1 A.c2 B (x.l1.set i b) (x.f1.set i true)) (hb : ButL w w' [A.cb, A.mb, A.p, A.g1, A.g2]) : WkAt w' A B (x.mv1 i b q') := by
  have f1 := h.farW
  have f2 := h.pg1.row_far h.row
  have f3 := h.pg2.far1 h.pat
  have f4 := h.pg2.far2 h.pat
  have f5 := h.pg2.cross h.pg1
  have f6 := h.pg1.cross h.pg2
  refine ⟨?_, hp, hg, h.pg2.blocks (hb.block _ h.pg2.lt1 ?_) (hb.block _ h.pg2.lt2 ?_), h.ne13, h.ne24⟩
  · show RowV w' A.W _ (wcells A (x.l1.set i b).length x.l2.length)
    rw [List.length_set]
    exact h.row.block (hb.block _ h.row.lt (by simp; exact ⟨f1.2.2.1, f1.2.2.2, f1.1, f2.1, f2.2⟩))
  · simp; exact ⟨f3.2.2.1, f3.2.2.2, f3.1, Ne.symm h.ne13, f5⟩
  · simp; exact ⟨f4.2.2.1, f4.2.2.2, f4.1, Ne.symm f6, Ne.symm h.ne24⟩
theorem WkAt.mv2 (h : WkAt w A B x) (hp : PAt w' A.p A.ta A.cb A.mb A.c q') (hg : PgAt w' A.g3 A.g4 A.c3 A.c4 B (x.l2.set i b) (x.f2.set i true)) (hb : ButL w w' [A.cb, A.mb, A.p, A.g3, A.g4]) : WkAt w' A B (x.mv2 i b q') := by
  have f1 := h.farW
  have f2 := h.pg2.row_far h.row
  have f3 := h.pg1.far1 h.pat
  have f4 := h.pg1.far2 h.pat
  have f5 := h.pg2.cross h.pg1
  have f6 := h.pg1.cross h.pg2
  refine ⟨?_, hp, h.pg1.blocks (hb.block _ h.pg1.lt1 ?_) (hb.block _ h.pg1.lt2 ?_), hg, h.ne13, h.ne24⟩
  · show RowV w' A.W _ (wcells A x.l1.length (x.l2.set i b).length)
    rw [List.length_set]
    exact h.row.block (hb.block _ h.row.lt (by simp; exact ⟨f1.2.2.1, f1.2.2.2, f1.1, f2.1, f2.2⟩))
  · simp; exact ⟨f3.2.2.1, f3.2.2.2, f3.1, h.ne13, f6⟩
  · simp; exact ⟨f4.2.2.1, f4.2.2.2, f4.1, Ne.symm f5, h.ne24⟩
theorem FirstP.lt {l : List Nat} {f : List Bool} {S : Int → Prop} (h : FirstP l f S i true) : i < l.length ∧ f.getD i false = false := ⟨h.ask.1, h.ask.2.1⟩
end

set_option maxRecDepth 100000 in
set_option maxHeartbeats 4000000 in
theorem step_any {w : World} {A : Adr} {B : Nat} {x : Wk} (h : WkAt w A B x) (hg : x.Good) :
    Calls Try.prog 47 #[.pointer (some ⟨A.W, 0, none⟩)] w (StepOut A B x w) := by
  have H := Lib.hid h
  have HG := Lib.hid hg
  clear h hg
  go_enter Try.func47, Try.ntmps47
  go_upto_region 1 with (fail)
  refine Inv2.wp_region_inv (fun b a wy => ∃ z3 z7 z8 z9 z10 z11 z12 z13 z14 z15 z16 z17 z18 z19 z20, a = ⟨(List.toArray (.pointer (some ⟨A.W, 0, none⟩) :: undef :: .bool false :: z3 :: undef :: undef :: undef :: z7 :: z8 :: z9 :: z10 :: z11 :: z12 :: z13 :: z14 :: z15 :: z16 :: z17 :: z18 :: z19 :: z20 :: undef :: undef :: undef :: undef :: undef :: undef :: undef :: undef :: undef :: undef :: undef :: undef :: undef :: undef :: undef :: undef :: undef :: undef :: undef :: undef :: undef :: undef :: undef :: undef :: undef :: undef :: [])), []⟩ ∧ Hid ((b 0 = true → z7 = .pointer (some ⟨A.W, 0, none⟩)) ∧ (b 1 = true → z8 = .pointer (some ⟨A.W, 0, none⟩)) ∧ (b 2 = true → z9 = .pointer (some ⟨A.W, 0, none⟩)) ∧ (b 3 = true → z10 = .pointer (some ⟨A.ta, 0, none⟩)) ∧ (b 6 = true → z13 = .pointer (some ⟨A.W, 0, none⟩)) ∧ (b 7 = true → z14 = .pointer (some ⟨A.W, 0, none⟩)) ∧ (b 8 = true → z15 = .pointer (some ⟨A.W, 2, none⟩)) ∧ (b 9 = true → z16 = .pointer (some ⟨A.W, 2, none⟩)) ∧ (b 10 = true → z17 = .agg #[.slice (some ⟨A.g1, 0, none⟩) x.l1.length A.c1, .slice (some ⟨A.g2, 0, none⟩) x.l1.length A.c2])) ∧ Hid (Below w.heap.size w wy) ∧ Hid ((b 15 = false → b 4 = true → List64 wy z11 x.q.s.changed) ∧ (b 5 = true → Tells wy z12 w.heap.size x.S1) ∧ (b 15 = false → b 11 = true → List64 wy z18 (doneL x.f1)) ∧ (b 12 = true → Tells wy z19 w.heap.size x.S2) ∧ (b 13 = true → z20 = .agg #[z12, z19] ∧ b 5 = true ∧ b 12 = true) ∧ (b 14 = true → ∃ r, z3 = .pointer (some ⟨r, 0, none⟩) ∧ w.heap.size ≤ r ∧ (b 15 = false → RowV wy r 110 [.nilFunc, .nilFunc]) ∧ (b 15 = true → b 13 = true ∧ RowV wy r 110 [z12, z19])) ∧ (b 15 = true → b 14 = true))) (by kernel_rfl) (by kernel_rfl) ?startE1 ?stepsE1 ?doneE1
  case startE1 =>
    intro b hb
    refine ⟨undef, undef, undef, undef, undef, undef, undef, undef, undef, undef, undef, undef, undef, undef, undef, rfl, Lib.hid ⟨?_, ?_, ?_, ?_, ?_, ?_, ?_, ?_, ?_⟩, Lib.hid ((show Still w w.drew from ⟨rfl, rfl, rfl, rfl⟩).below _), Lib.hid (⟨(fun _ e => by rw [hb _ (by decide)] at e; cases e), (fun e => by rw [hb _ (by decide)] at e; cases e), (fun _ e => by rw [hb _ (by decide)] at e; cases e), (fun e => by rw [hb _ (by decide)] at e; cases e), (fun e => by rw [hb _ (by decide)] at e; cases e), (fun e => by rw [hb _ (by decide)] at e; cases e), (fun e => by rw [hb _ (by decide)] at e; cases e)⟩)⟩
    all_goals (intro e; first | rfl | (rw [hb _ (by decide)] at e; cases e))
  case stepsE1 =>
    refine ⟨?_, ?_, ?_, ?_, ?_, ?_, ?_, ?_, ?_, ?_, ?_, ?_, ?_, ?_, ?_, ?_, trivial⟩
    · rintro b a wy hb hd ⟨z3, z7, z8, z9, z10, z11, z12, z13, z14, z15, z16, z17, z18, z19, z20, rfl, HV, HW, HX⟩ K hK
      obtain ⟨h0, h1, h2, h3, h6, h7, h8, h9, h10⟩ := HV.out
      clear hd
      go_simp
      exact hK _ _ ⟨_, _, _, _, _, _, _, _, _, _, _, _, _, _, _, rfl, Lib.hid ⟨fun _ => rfl, h1, h2, h3, h6, h7, h8, h9, h10⟩, HW, HX⟩
    · rintro b a wy hb hd ⟨z3, z7, z8, z9, z10, z11, z12, z13, z14, z15, z16, z17, z18, z19, z20, rfl, HV, HW, HX⟩ K hK
      obtain ⟨h0, h1, h2, h3, h6, h7, h8, h9, h10⟩ := HV.out
      simp [Region.binds] at hd
      obtain rfl := h0 (by simp [hd])
      clear hd
      go_simp
      exact hK _ _ ⟨_, _, _, _, _, _, _, _, _, _, _, _, _, _, _, rfl, Lib.hid ⟨h0, fun _ => rfl, h2, h3, h6, h7, h8, h9, h10⟩, HW, HX⟩
    · rintro b a wy hb hd ⟨z3, z7, z8, z9, z10, z11, z12, z13, z14, z15, z16, z17, z18, z19, z20, rfl, HV, HW, HX⟩ K hK
      obtain ⟨h0, h1, h2, h3, h6, h7, h8, h9, h10⟩ := HV.out
      simp [Region.binds] at hd
      obtain rfl := h1 (by simp [hd])
      clear hd
      go_simp
      exact hK _ _ ⟨_, _, _, _, _, _, _, _, _, _, _, _, _, _, _, rfl, Lib.hid ⟨h0, h1, fun _ => rfl, h3, h6, h7, h8, h9, h10⟩, HW, HX⟩
    · rintro b a wy hb hd ⟨z3, z7, z8, z9, z10, z11, z12, z13, z14, z15, z16, z17, z18, z19, z20, rfl, HV, HW, HX⟩ K hK
      obtain ⟨h0, h1, h2, h3, h6, h7, h8, h9, h10⟩ := HV.out
      simp [Region.binds] at hd
      obtain rfl := h2 (by simp [hd])
      clear hd
      have q0 := (H.out.row.below H.out.row.lt HW.out).cellAt (i := 0) rfl
      go_simp
      exact hK _ _ ⟨_, _, _, _, _, _, _, _, _, _, _, _, _, _, _, rfl, Lib.hid ⟨h0, h1, h2, fun _ => rfl, h6, h7, h8, h9, h10⟩, HW, HX⟩
    · rintro b a wy hb hd ⟨z3, z7, z8, z9, z10, z11, z12, z13, z14, z15, z16, z17, z18, z19, z20, rfl, HV, HW, HX⟩ K hK
      obtain ⟨h0, h1, h2, h3, h6, h7, h8, h9, h10⟩ := HV.out
      simp [Region.binds] at hd
      obtain rfl := h3 (by simp [hd])
      clear hd
      obtain ⟨x1, x2, x3, x4, x5, x6, x7⟩ := HX.out
      go_simp
      go_at_call 30
      refine (list_at (H.out.pat.tally.kept HW.out)).mono ?_
      rintro e wz ⟨u, rfl, hu, kz⟩
      try go_simp
      exact hK _ _ ⟨_, _, _, _, _, _, _, _, _, _, _, _, _, _, _, rfl, Lib.hid ⟨h0, h1, h2, h3, h6, h7, h8, h9, h10⟩, Lib.hid (HW.out.trans (kz.mono HW.out.size)), Lib.hid ⟨fun _ _ => hu, fun e => (x2 e).below kz, fun e0 e => (x3 e0 e).still kz, fun e => (x4 e).below kz, x5, fun e => (by obtain ⟨r, y1, y2, y3, y4⟩ := x6 e; exact ⟨r, y1, y2, fun e2 => (y3 e2).below (y3 e2).lt kz, fun e2 => ⟨(y4 e2).1, (y4 e2).2.below (y4 e2).2.lt kz⟩⟩), x7⟩⟩
    · rintro b a wy hb hd ⟨z3, z7, z8, z9, z10, z11, z12, z13, z14, z15, z16, z17, z18, z19, z20, rfl, HV, HW, HX⟩ K hK
      obtain ⟨h0, h1, h2, h3, h6, h7, h8, h9, h10⟩ := HV.out
      simp [Region.binds] at hd
      have dd4 : b 4 = true := by simp [hd]
      clear hd
      obtain ⟨x1, x2, x3, x4, x5, x6, x7⟩ := HX.out
      have f15 : (b 15 = true → b 5 = true) → b 15 = false := fun k => (by cases e15 : b 15 with | false => rfl | true => exact absurd (k e15) (by rw [hb]; decide))
      have HL := Lib.hid (x1 (f15 (fun e => (x5 ((x6 (x7 e)).elim fun r y => (y.2.2.2 e).1)).2.1)) dd4)
      go_simp
      go_at_call 57
      refine (has_any HL.out (changed_few HG.out).1 (changed_few HG.out).2).mono ?_
      rintro e wz ⟨u, rfl, hu, kz⟩
      try go_simp
      exact hK _ _ ⟨_, _, _, _, _, _, _, _, _, _, _, _, _, _, _, rfl, Lib.hid ⟨h0, h1, h2, h3, h6, h7, h8, h9, h10⟩, Lib.hid (HW.out.trans (kz.mono HW.out.size)), Lib.hid ⟨fun e0 e => (x1 e0 e).still kz, fun _ => hu.lo HW.out.size, fun e0 e => (x3 e0 e).still kz, fun e => (x4 e).below kz, fun e => absurd (x5 e).2.1 (by rw [hb]; decide), fun e => (by obtain ⟨r, y1, y2, y3, y4⟩ := x6 e; exact ⟨r, y1, y2, fun e2 => (y3 e2).below (y3 e2).lt kz, fun e2 => absurd (x5 (y4 e2).1).2.1 (by rw [hb]; decide)⟩), x7⟩⟩
    · rintro b a wy hb hd ⟨z3, z7, z8, z9, z10, z11, z12, z13, z14, z15, z16, z17, z18, z19, z20, rfl, HV, HW, HX⟩ K hK
      obtain ⟨h0, h1, h2, h3, h6, h7, h8, h9, h10⟩ := HV.out
      clear hd
      go_simp
      exact hK _ _ ⟨_, _, _, _, _, _, _, _, _, _, _, _, _, _, _, rfl, Lib.hid ⟨h0, h1, h2, h3, fun _ => rfl, h7, h8, h9, h10⟩, HW, HX⟩
    · rintro b a wy hb hd ⟨z3, z7, z8, z9, z10, z11, z12, z13, z14, z15, z16, z17, z18, z19, z20, rfl, HV, HW, HX⟩ K hK
      obtain ⟨h0, h1, h2, h3, h6, h7, h8, h9, h10⟩ := HV.out
      simp [Region.binds] at hd
      obtain rfl := h6 (by simp [hd])
      clear hd
      go_simp
      exact hK _ _ ⟨_, _, _, _, _, _, _, _, _, _, _, _, _, _, _, rfl, Lib.hid ⟨h0, h1, h2, h3, h6, fun _ => rfl, h8, h9, h10⟩, HW, HX⟩
    · rintro b a wy hb hd ⟨z3, z7, z8, z9, z10, z11, z12, z13, z14, z15, z16, z17, z18, z19, z20, rfl, HV, HW, HX⟩ K hK
      obtain ⟨h0, h1, h2, h3, h6, h7, h8, h9, h10⟩ := HV.out
      simp [Region.binds] at hd
      obtain rfl := h7 (by simp [hd])
      clear hd
      go_simp
      exact hK _ _ ⟨_, _, _, _, _, _, _, _, _, _, _, _, _, _, _, rfl, Lib.hid ⟨h0, h1, h2, h3, h6, h7, fun _ => rfl, h9, h10⟩, HW, HX⟩
    · rintro b a wy hb hd ⟨z3, z7, z8, z9, z10, z11, z12, z13, z14, z15, z16, z17, z18, z19, z20, rfl, HV, HW, HX⟩ K hK
      obtain ⟨h0, h1, h2, h3, h6, h7, h8, h9, h10⟩ := HV.out
      simp [Region.binds] at hd
      obtain rfl := h8 (by simp [hd])
      clear hd
      go_simp
      exact hK _ _ ⟨_, _, _, _, _, _, _, _, _, _, _, _, _, _, _, rfl, Lib.hid ⟨h0, h1, h2, h3, h6, h7, h8, fun _ => rfl, h10⟩, HW, HX⟩
    · rintro b a wy hb hd ⟨z3, z7, z8, z9, z10, z11, z12, z13, z14, z15, z16, z17, z18, z19, z20, rfl, HV, HW, HX⟩ K hK
      obtain ⟨h0, h1, h2, h3, h6, h7, h8, h9, h10⟩ := HV.out
      simp [Region.binds] at hd
      obtain rfl := h9 (by simp [hd])
      clear hd
      have q0 := (H.out.row.below H.out.row.lt HW.out).cellAt (i := 2) rfl
      have q1 := (H.out.row.below H.out.row.lt HW.out).cellAt (i := 3) rfl
      go_simp
      exact hK _ _ ⟨_, _, _, _, _, _, _, _, _, _, _, _, _, _, _, rfl, Lib.hid ⟨h0, h1, h2, h3, h6, h7, h8, h9, fun _ => rfl⟩, HW, HX⟩
    · rintro b a wy hb hd ⟨z3, z7, z8, z9, z10, z11, z12, z13, z14, z15, z16, z17, z18, z19, z20, rfl, HV, HW, HX⟩ K hK
      obtain ⟨h0, h1, h2, h3, h6, h7, h8, h9, h10⟩ := HV.out
      simp [Region.binds] at hd
      obtain rfl := h10 (by simp [hd])
      clear hd
      obtain ⟨x1, x2, x3, x4, x5, x6, x7⟩ := HX.out
      obtain ⟨sp2, hsp2⟩ := (H.out.pg1.kept HW.out).pl
      have HPL := Lib.hid hsp2
      clear hsp2
      go_simp
      go_at_call 48
      refine (done_eq HPL.out HG.out.fl1 HG.out.f1_le).mono ?_
      rintro e wz ⟨u, rfl, hu, kz⟩
      try go_simp
      exact hK _ _ ⟨_, _, _, _, _, _, _, _, _, _, _, _, _, _, _, rfl, Lib.hid ⟨h0, h1, h2, h3, h6, h7, h8, h9, h10⟩, Lib.hid (HW.out.trans (kz.mono HW.out.size)), Lib.hid ⟨fun e0 e => (x1 e0 e).still kz, fun e => (x2 e).below kz, fun _ _ => hu, fun e => (x4 e).below kz, x5, fun e => (by obtain ⟨r, y1, y2, y3, y4⟩ := x6 e; exact ⟨r, y1, y2, fun e2 => (y3 e2).below (y3 e2).lt kz, fun e2 => ⟨(y4 e2).1, (y4 e2).2.below (y4 e2).2.lt kz⟩⟩), x7⟩⟩
    · rintro b a wy hb hd ⟨z3, z7, z8, z9, z10, z11, z12, z13, z14, z15, z16, z17, z18, z19, z20, rfl, HV, HW, HX⟩ K hK
      obtain ⟨h0, h1, h2, h3, h6, h7, h8, h9, h10⟩ := HV.out
      simp [Region.binds] at hd
      have dd11 : b 11 = true := by simp [hd]
      clear hd
      obtain ⟨x1, x2, x3, x4, x5, x6, x7⟩ := HX.out
      have f15 : (b 15 = true → b 12 = true) → b 15 = false := fun k => (by cases e15 : b 15 with | false => rfl | true => exact absurd (k e15) (by rw [hb]; decide))
      have HL := Lib.hid (x3 (f15 (fun e => (x5 ((x6 (x7 e)).elim fun r y => (y.2.2.2 e).1)).2.2)) dd11)
      go_simp
      go_at_call 57
      refine (has_any HL.out (done_few HG.out).1 (done_few HG.out).2).mono ?_
      rintro e wz ⟨u, rfl, hu, kz⟩
      try go_simp
      exact hK _ _ ⟨_, _, _, _, _, _, _, _, _, _, _, _, _, _, _, rfl, Lib.hid ⟨h0, h1, h2, h3, h6, h7, h8, h9, h10⟩, Lib.hid (HW.out.trans (kz.mono HW.out.size)), Lib.hid ⟨fun e0 e => (x1 e0 e).still kz, fun e => (x2 e).below kz, fun e0 e => (x3 e0 e).still kz, fun _ => hu.lo HW.out.size, fun e => absurd (x5 e).2.2 (by rw [hb]; decide), fun e => (by obtain ⟨r, y1, y2, y3, y4⟩ := x6 e; exact ⟨r, y1, y2, fun e2 => (y3 e2).below (y3 e2).lt kz, fun e2 => absurd (x5 (y4 e2).1).2.2 (by rw [hb]; decide)⟩), x7⟩⟩
    · rintro b a wy hb hd ⟨z3, z7, z8, z9, z10, z11, z12, z13, z14, z15, z16, z17, z18, z19, z20, rfl, HV, HW, HX⟩ K hK
      obtain ⟨h0, h1, h2, h3, h6, h7, h8, h9, h10⟩ := HV.out
      simp [Region.binds] at hd
      have dd5 : b 5 = true := by simp [hd]
      have dd12 : b 12 = true := by simp [hd]
      clear hd
      obtain ⟨x1, x2, x3, x4, x5, x6, x7⟩ := HX.out
      have t1 := x2 dd5
      have t2 := x4 dd12
      obtain ⟨s1, m1, n1, rfl, _, _, _, _, _⟩ := t1.out
      obtain ⟨s2, m2, n2, rfl, _, _, _, _, _⟩ := t2.out
      go_simp
      exact hK _ _ ⟨_, _, _, _, _, _, _, _, _, _, _, _, _, _, _, rfl, Lib.hid ⟨h0, h1, h2, h3, h6, h7, h8, h9, h10⟩, HW, Lib.hid ⟨x1, x2, x3, x4, fun _ => ⟨rfl, dd5, dd12⟩, fun e => (by obtain ⟨r, y1, y2, y3, y4⟩ := x6 e; exact ⟨r, y1, y2, y3, fun e2 => absurd (y4 e2).1 (by rw [hb]; decide)⟩), x7⟩⟩
    · rintro b a wy hb hd ⟨z3, z7, z8, z9, z10, z11, z12, z13, z14, z15, z16, z17, z18, z19, z20, rfl, HV, HW, HX⟩ K hK
      obtain ⟨h0, h1, h2, h3, h6, h7, h8, h9, h10⟩ := HV.out
      simp [Region.binds] at hd
      clear hd
      obtain ⟨x1, x2, x3, x4, x5, x6, x7⟩ := HX.out
      have hz := funs_zero wy
      go_simp
      have B2 := (Below.refl wy.heap.size wy).alloc (Nat.le_refl _) (.cells #[.nilFunc, .nilFunc] 110)
      have R2 := alloc_rowV wy 110 [.nilFunc, .nilFunc]
      exact hK _ _ ⟨_, _, _, _, _, _, _, _, _, _, _, _, _, _, _, rfl, Lib.hid ⟨h0, h1, h2, h3, h6, h7, h8, h9, h10⟩, Lib.hid (HW.out.trans (B2.mono HW.out.size)), Lib.hid ⟨fun e0 e => (x1 e0 e).still B2, fun e => (x2 e).below B2, fun e0 e => (x3 e0 e).still B2, fun e => (x4 e).below B2, x5, fun _ => ⟨wy.heap.size, rfl, HW.out.size, fun _ => R2, fun e => absurd (x7 e) (by rw [hb]; decide)⟩, fun _ => rfl⟩⟩
    · rintro b a wy hb hd ⟨z3, z7, z8, z9, z10, z11, z12, z13, z14, z15, z16, z17, z18, z19, z20, rfl, HV, HW, HX⟩ K hK
      obtain ⟨h0, h1, h2, h3, h6, h7, h8, h9, h10⟩ := HV.out
      simp [Region.binds] at hd
      have dd14 : b 14 = true := by simp [hd]
      have dd13 : b 13 = true := by simp [hd]
      clear hd
      obtain ⟨x1, x2, x3, x4, x5, x6, x7⟩ := HX.out
      obtain ⟨r, rfl, hr1, hr2, _⟩ := x6 dd14
      obtain ⟨rfl, d5, d12⟩ := x5 dd13
      have hr := hr2 hb
      have q0 := hr.cellAt (i := 0) rfl
      have q1 := hr.cellAt (i := 1) rfl
      have fz0 := hr.free 0
      have fz1 := hr.free 1
      have t1 := x2 d5
      have t2 := x4 d12
      obtain ⟨s1, m1, n1, rfl, k1, k2, k3, k4, k5⟩ := t1.out
      obtain ⟨s2, m2, n2, rfl, k6, k7, k8, k9, k10⟩ := t2.out
      have HT := Lib.hid (And.intro t1 t2)
      have HA3 := Lib.hid ((hr.set 0 _ : RowV (wy.setCell ⟨r, 0, none⟩ (.func (.func 68) #[] #[.pointer (some ⟨s1, 0, none⟩)])) _ _ _).set 1 (.func (.func 68) #[] #[.pointer (some ⟨s2, 0, none⟩)]))
      have HU := Lib.hid ((ButL.set wy r 0 (.func (.func 68) #[] #[.pointer (some ⟨s1, 0, none⟩)])).trans (ButL.set _ r 1 (.func (.func 68) #[] #[.pointer (some ⟨s2, 0, none⟩)])))
      have HN := Lib.hid hr
      have hd2 := Lib.hid (And.intro dd14 (And.intro dd13 (And.intro d5 d12)))
      have HXX := Lib.hid (And.intro x1 x3)
      clear x1 x2 x3 x4 x5 x6 hr hr2 t1 t2 k3 k4 k5 k8 k9 k10 k1 k2 k6 k7 dd14 dd13 d5 d12 HX
      go_simp
      have HW6 := Lib.hid (HW.out.trans (HU.out.below (B := w.heap.size) (by simp; exact hr1) HW.out.size))
      exact hK _ _ ⟨_, _, _, _, _, _, _, _, _, _, _, _, _, _, _, rfl, Lib.hid ⟨h0, h1, h2, h3, h6, h7, h8, h9, h10⟩, HW6, Lib.hid ⟨fun e => (by cases e), fun _ => HT.out.1.but HN.out HU.out, fun e => (by cases e), fun _ => HT.out.2.but HN.out HU.out, fun _ => ⟨rfl, hd2.out.2.2.1, hd2.out.2.2.2⟩, fun _ => ⟨r, rfl, hr1, fun e => (by cases e), fun _ => ⟨hd2.out.2.1, HA3.out⟩⟩, fun _ => hd2.out.1⟩⟩
  case doneE1 =>
    rintro b a wy hb ⟨z3, z7, z8, z9, z10, z11, z12, z13, z14, z15, z16, z17, z18, z19, z20, rfl, HV, HW, HX⟩
    obtain ⟨h0, h1, h2, h3, h6, h7, h8, h9, h10⟩ := HV.out
    obtain rfl := h0 (hb 0)
    obtain rfl := h1 (hb 1)
    obtain rfl := h2 (hb 2)
    obtain rfl := h3 (hb 3)
    obtain rfl := h6 (hb 6)
    obtain rfl := h7 (hb 7)
    obtain rfl := h8 (hb 8)
    obtain rfl := h9 (hb 9)
    obtain rfl := h10 (hb 10)
    clear HV h0 h1 h2 h3 h6 h7 h8 h9 h10
    obtain ⟨x1, x2, x3, x4, x5, x6, x7⟩ := HX.out
    obtain ⟨r, rfl, hr1, _, hr2⟩ := x6 (hb 14)
    obtain ⟨rfl, _, _⟩ := x5 (hb 13)
    have HT1 := Lib.hid (x2 (hb 5))
    have HT2 := Lib.hid (x4 (hb 12))
    have HR := Lib.hid (hr2 (hb 15)).2
    have HRW := Lib.hid hr1
    clear x1 x2 x3 x4 x5 x6 x7 hr1 hr2 hb HX
    go_wp2_with fail
    go_loopw [21] (fun i wr => ((i = .int .i64 0) ∨ (i = .int .i64 1 ∧ Hid (noP x.l1 x.f1 x.S1)) ∨ (i = .int .i64 2 ∧ Hid (noP x.l1 x.f1 x.S1) ∧ Hid (noP x.l2 x.f2 x.S2))) ∧ Hid (Below w.heap.size w wr) ∧ Hid (RowV wr r 110 [z12, z19]) ∧ Hid (Tells wr z12 w.heap.size x.S1) ∧ Hid (Tells wr z19 w.heap.size x.S2)) (fun i _ => 2 - (Go.RowKit.intOf i).toNat)
    case atStart => exact ⟨.inl rfl, HW, HR, HT1, HT2⟩
    case round =>
      obtain ⟨hk, HBr, HRr, HTa, HTb⟩ := hrel
      obtain ⟨wm, hwm⟩ : ∃ y, y = wr := ⟨_, rfl⟩
      subst hwm
      rcases hk with rfl | ⟨rfl, HN1⟩ | ⟨rfl, HN1, HN2⟩
      · go_upto_region 5 with (fail)
        refine Inv2.wp_region_inv (fun b a wy => ∃ z5 z6 z24 z25 z26 z27 z28 z29 z30 z31 z32 z33 z34 z35 z36, a = ⟨(List.toArray (.pointer (some ⟨A.W, 0, none⟩) :: undef :: u2 :: .pointer (some ⟨r, 0, none⟩) :: .int .i64 0 :: z5 :: z6 :: .pointer (some ⟨A.W, 0, none⟩) :: .pointer (some ⟨A.W, 0, none⟩) :: .pointer (some ⟨A.W, 0, none⟩) :: .pointer (some ⟨A.ta, 0, none⟩) :: z11 :: z12 :: .pointer (some ⟨A.W, 0, none⟩) :: .pointer (some ⟨A.W, 0, none⟩) :: .pointer (some ⟨A.W, 2, none⟩) :: .pointer (some ⟨A.W, 2, none⟩) :: .agg #[.slice (some ⟨A.g1, 0, none⟩) x.l1.length A.c1, .slice (some ⟨A.g2, 0, none⟩) x.l1.length A.c2] :: z18 :: z19 :: .agg #[z12, z19] :: .int .i64 0 :: .bool true :: .int .i64 0 :: z24 :: z25 :: z26 :: z27 :: z28 :: z29 :: z30 :: z31 :: z32 :: z33 :: z34 :: z35 :: z36 :: u37 :: u38 :: u39 :: u40 :: u41 :: u42 :: u43 :: u44 :: u45 :: u46 :: [])), []⟩ ∧ Hid ((b 0 = true → z25 = .pointer (some ⟨A.W, 0, none⟩)) ∧ (b 1 = true → z26 = .int .i64 0) ∧ (b 2 = true → z27 = .pointer (some ⟨A.W, 0, none⟩)) ∧ (b 3 = true → z28 = .pointer (some ⟨A.W, 2, none⟩)) ∧ (b 4 = true → z29 = .pointer (some ⟨A.W, 2, none⟩)) ∧ (b 5 = true → z30 = .agg #[.slice (some ⟨A.g1, 0, none⟩) x.l1.length A.c1, .slice (some ⟨A.g2, 0, none⟩) x.l1.length A.c2]) ∧ (b 6 = true → z31 = .int .i64 0) ∧ (b 7 = true → z32 = .pointer (some ⟨r, 0, none⟩)) ∧ (b 8 = true → z33 = z12)) ∧ Hid (Below wm.heap.size wm wy) ∧ Hid (∃ (i : Nat) (ok : Bool), (b 9 = true → z34 = .tuple #[.int .i64 (i : Int), .bool ok] ∧ FirstP x.l1 x.f1 x.S1 i ok) ∧ (b 10 = true → b 9 = true ∧ z24 = .tuple #[.int .i64 (i : Int), .bool ok]) ∧ (b 11 = true → b 9 = true ∧ z35 = .int .i64 (i : Int)) ∧ (b 12 = true → b 9 = true ∧ z36 = .bool ok) ∧ (b 13 = true → b 9 = true ∧ z5 = .int .i64 (i : Int)) ∧ (b 14 = true → b 9 = true ∧ z6 = .bool ok))) (by kernel_rfl) (by kernel_rfl) ?startF0 ?stepsF0 ?doneF0
        case startF0 =>
          intro b hb
          refine ⟨u5, u6, u24, u25, u26, u27, u28, u29, u30, u31, u32, u33, u34, u35, u36, rfl, Lib.hid ⟨?_, ?_, ?_, ?_, ?_, ?_, ?_, ?_, ?_⟩, Lib.hid ((show Still wm wm.drew from ⟨rfl, rfl, rfl, rfl⟩).below _), Lib.hid (⟨0, false, (fun e => by rw [hb _ (by decide)] at e; cases e), (fun e => by rw [hb _ (by decide)] at e; cases e), (fun e => by rw [hb _ (by decide)] at e; cases e), (fun e => by rw [hb _ (by decide)] at e; cases e), (fun e => by rw [hb _ (by decide)] at e; cases e), (fun e => by rw [hb _ (by decide)] at e; cases e)⟩)⟩
          all_goals (intro e; first | rfl | (rw [hb _ (by decide)] at e; cases e))
        case stepsF0 =>
          refine ⟨?_, ?_, ?_, ?_, ?_, ?_, ?_, ?_, ?_, ?_, ?_, ?_, ?_, ?_, ?_, trivial⟩
          · rintro b a wy hb hd ⟨z5, z6, z24, z25, z26, z27, z28, z29, z30, z31, z32, z33, z34, z35, z36, rfl, HV, HW, HX⟩ K hK
            obtain ⟨h0, h1, h2, h3, h4, h5, h6, h7, h8⟩ := HV.out
            clear hd
            go_simp
            exact hK _ _ ⟨_, _, _, _, _, _, _, _, _, _, _, _, _, _, _, rfl, Lib.hid ⟨fun _ => rfl, h1, h2, h3, h4, h5, h6, h7, h8⟩, HW, HX⟩
          · rintro b a wy hb hd ⟨z5, z6, z24, z25, z26, z27, z28, z29, z30, z31, z32, z33, z34, z35, z36, rfl, HV, HW, HX⟩ K hK
            obtain ⟨h0, h1, h2, h3, h4, h5, h6, h7, h8⟩ := HV.out
            clear hd
            go_simp
            exact hK _ _ ⟨_, _, _, _, _, _, _, _, _, _, _, _, _, _, _, rfl, Lib.hid ⟨h0, fun _ => rfl, h2, h3, h4, h5, h6, h7, h8⟩, HW, HX⟩
          · rintro b a wy hb hd ⟨z5, z6, z24, z25, z26, z27, z28, z29, z30, z31, z32, z33, z34, z35, z36, rfl, HV, HW, HX⟩ K hK
            obtain ⟨h0, h1, h2, h3, h4, h5, h6, h7, h8⟩ := HV.out
            simp [Region.binds] at hd
            obtain rfl := h0 (by simp [hd])
            clear hd
            go_simp
            exact hK _ _ ⟨_, _, _, _, _, _, _, _, _, _, _, _, _, _, _, rfl, Lib.hid ⟨h0, h1, fun _ => rfl, h3, h4, h5, h6, h7, h8⟩, HW, HX⟩
          · rintro b a wy hb hd ⟨z5, z6, z24, z25, z26, z27, z28, z29, z30, z31, z32, z33, z34, z35, z36, rfl, HV, HW, HX⟩ K hK
            obtain ⟨h0, h1, h2, h3, h4, h5, h6, h7, h8⟩ := HV.out
            simp [Region.binds] at hd
            obtain rfl := h2 (by simp [hd])
            clear hd
            go_simp
            exact hK _ _ ⟨_, _, _, _, _, _, _, _, _, _, _, _, _, _, _, rfl, Lib.hid ⟨h0, h1, h2, fun _ => rfl, h4, h5, h6, h7, h8⟩, HW, HX⟩
          · rintro b a wy hb hd ⟨z5, z6, z24, z25, z26, z27, z28, z29, z30, z31, z32, z33, z34, z35, z36, rfl, HV, HW, HX⟩ K hK
            obtain ⟨h0, h1, h2, h3, h4, h5, h6, h7, h8⟩ := HV.out
            simp [Region.binds] at hd
            obtain rfl := h3 (by simp [hd])
            obtain rfl := h1 (by simp [hd])
            clear hd
            go_simp
            exact hK _ _ ⟨_, _, _, _, _, _, _, _, _, _, _, _, _, _, _, rfl, Lib.hid ⟨h0, h1, h2, h3, fun _ => rfl, h5, h6, h7, h8⟩, HW, HX⟩
          · rintro b a wy hb hd ⟨z5, z6, z24, z25, z26, z27, z28, z29, z30, z31, z32, z33, z34, z35, z36, rfl, HV, HW, HX⟩ K hK
            obtain ⟨h0, h1, h2, h3, h4, h5, h6, h7, h8⟩ := HV.out
            simp [Region.binds] at hd
            obtain rfl := h4 (by simp [hd])
            clear hd
            have hrow := ((H.out.kept HBr.out).kept HW.out).row
            have q0 := hrow.cellAt (i := 2) rfl
            have q1 := hrow.cellAt (i := 3) rfl
            clear hrow
            go_simp
            exact hK _ _ ⟨_, _, _, _, _, _, _, _, _, _, _, _, _, _, _, rfl, Lib.hid ⟨h0, h1, h2, h3, h4, fun _ => rfl, h6, h7, h8⟩, HW, HX⟩
          · rintro b a wy hb hd ⟨z5, z6, z24, z25, z26, z27, z28, z29, z30, z31, z32, z33, z34, z35, z36, rfl, HV, HW, HX⟩ K hK
            obtain ⟨h0, h1, h2, h3, h4, h5, h6, h7, h8⟩ := HV.out
            clear hd
            go_simp
            exact hK _ _ ⟨_, _, _, _, _, _, _, _, _, _, _, _, _, _, _, rfl, Lib.hid ⟨h0, h1, h2, h3, h4, h5, fun _ => rfl, h7, h8⟩, HW, HX⟩
          · rintro b a wy hb hd ⟨z5, z6, z24, z25, z26, z27, z28, z29, z30, z31, z32, z33, z34, z35, z36, rfl, HV, HW, HX⟩ K hK
            obtain ⟨h0, h1, h2, h3, h4, h5, h6, h7, h8⟩ := HV.out
            simp [Region.binds] at hd
            obtain rfl := h6 (by simp [hd])
            clear hd
            go_simp
            exact hK _ _ ⟨_, _, _, _, _, _, _, _, _, _, _, _, _, _, _, rfl, Lib.hid ⟨h0, h1, h2, h3, h4, h5, h6, fun _ => rfl, h8⟩, HW, HX⟩
          · rintro b a wy hb hd ⟨z5, z6, z24, z25, z26, z27, z28, z29, z30, z31, z32, z33, z34, z35, z36, rfl, HV, HW, HX⟩ K hK
            obtain ⟨h0, h1, h2, h3, h4, h5, h6, h7, h8⟩ := HV.out
            simp [Region.binds] at hd
            obtain rfl := h7 (by simp [hd])
            clear hd
            have hrow := HRr.out.below HRr.out.lt HW.out
            have q0 := hrow.cellAt (i := 0) rfl
            clear hrow
            go_simp
            exact hK _ _ ⟨_, _, _, _, _, _, _, _, _, _, _, _, _, _, _, rfl, Lib.hid ⟨h0, h1, h2, h3, h4, h5, h6, h7, fun _ => rfl⟩, HW, HX⟩
          · rintro b a wy hb hd ⟨z5, z6, z24, z25, z26, z27, z28, z29, z30, z31, z32, z33, z34, z35, z36, rfl, HV, HW, HX⟩ K hK
            obtain ⟨h0, h1, h2, h3, h4, h5, h6, h7, h8⟩ := HV.out
            simp [Region.binds] at hd
            obtain rfl := h5 (by simp [hd])
            obtain rfl := h8 (by simp [hd])
            clear hd
            obtain ⟨⟨sp1, hs1⟩, ⟨sp2, hs2⟩⟩ := ((H.out.kept HBr.out).kept HW.out).pg1.row
            have HS1 := Lib.hid hs1
            have HS2 := Lib.hid hs2
            have HTT := Lib.hid (HTa.out.below HW.out)
            have HXO := Lib.hid (show ∀ j, (b j = true → b 9 = true) → ¬ b j = true from fun j h e => absurd (h e) (by rw [hb]; decide))
            clear hs1 hs2
            obtain ⟨i0, ok0, x1, x2, x3, x4, x5, x6⟩ := HX.out
            have n10 := Lib.hid (HXO.out 10 fun e => (x2 e).1)
            have n11 := Lib.hid (HXO.out 11 fun e => (x3 e).1)
            have n12 := Lib.hid (HXO.out 12 fun e => (x4 e).1)
            have n13 := Lib.hid (HXO.out 13 fun e => (x5 e).1)
            have n14 := Lib.hid (HXO.out 14 fun e => (x6 e).1)
            clear x1 x2 x3 x4 x5 x6 HX HXO
            go_simp
            go_at_call 58
            refine (first_any HS1.out HS2.out HG.out.fl1 HG.out.l1_le HTT.out).mono ?_
            rintro e wz ⟨i, ok, rfl, hF, kz⟩
            try go_simp
            exact hK _ _ ⟨_, _, _, _, _, _, _, _, _, _, _, _, _, _, _, rfl, Lib.hid ⟨h0, h1, h2, h3, h4, h5, h6, h7, h8⟩, Lib.hid (HW.out.trans (kz.mono HW.out.size)), Lib.hid ⟨i, ok, fun _ => ⟨rfl, hF⟩, fun e => absurd e n10.out, fun e => absurd e n11.out, fun e => absurd e n12.out, fun e => absurd e n13.out, fun e => absurd e n14.out⟩⟩
          · rintro b a wy hb hd ⟨z5, z6, z24, z25, z26, z27, z28, z29, z30, z31, z32, z33, z34, z35, z36, rfl, HV, HW, HX⟩ K hK
            obtain ⟨h0, h1, h2, h3, h4, h5, h6, h7, h8⟩ := HV.out
            simp [Region.binds] at hd
            have dd9 : b 9 = true := by simp [hd]
            clear hd
            obtain ⟨i, ok, x1, x2, x3, x4, x5, x6⟩ := HX.out
            obtain ⟨rfl, hF⟩ := x1 dd9
            go_simp
            exact hK _ _ ⟨_, _, _, _, _, _, _, _, _, _, _, _, _, _, _, rfl, Lib.hid ⟨h0, h1, h2, h3, h4, h5, h6, h7, h8⟩, HW, Lib.hid ⟨i, ok, x1, fun _ => ⟨dd9, rfl⟩, x3, x4, x5, x6⟩⟩
          · rintro b a wy hb hd ⟨z5, z6, z24, z25, z26, z27, z28, z29, z30, z31, z32, z33, z34, z35, z36, rfl, HV, HW, HX⟩ K hK
            obtain ⟨h0, h1, h2, h3, h4, h5, h6, h7, h8⟩ := HV.out
            simp [Region.binds] at hd
            have dd10 : b 10 = true := by simp [hd]
            clear hd
            obtain ⟨i, ok, x1, x2, x3, x4, x5, x6⟩ := HX.out
            obtain ⟨d9, rfl⟩ := x2 dd10
            obtain ⟨rfl, hF⟩ := x1 d9
            go_simp
            exact hK _ _ ⟨_, _, _, _, _, _, _, _, _, _, _, _, _, _, _, rfl, Lib.hid ⟨h0, h1, h2, h3, h4, h5, h6, h7, h8⟩, HW, Lib.hid ⟨i, ok, fun _ => ⟨rfl, hF⟩, x2, fun _ => ⟨d9, rfl⟩, x4, x5, x6⟩⟩
          · rintro b a wy hb hd ⟨z5, z6, z24, z25, z26, z27, z28, z29, z30, z31, z32, z33, z34, z35, z36, rfl, HV, HW, HX⟩ K hK
            obtain ⟨h0, h1, h2, h3, h4, h5, h6, h7, h8⟩ := HV.out
            simp [Region.binds] at hd
            have dd10 : b 10 = true := by simp [hd]
            clear hd
            obtain ⟨i, ok, x1, x2, x3, x4, x5, x6⟩ := HX.out
            obtain ⟨d9, rfl⟩ := x2 dd10
            obtain ⟨rfl, hF⟩ := x1 d9
            go_simp
            exact hK _ _ ⟨_, _, _, _, _, _, _, _, _, _, _, _, _, _, _, rfl, Lib.hid ⟨h0, h1, h2, h3, h4, h5, h6, h7, h8⟩, HW, Lib.hid ⟨i, ok, fun _ => ⟨rfl, hF⟩, x2, x3, fun _ => ⟨d9, rfl⟩, x5, x6⟩⟩
          · rintro b a wy hb hd ⟨z5, z6, z24, z25, z26, z27, z28, z29, z30, z31, z32, z33, z34, z35, z36, rfl, HV, HW, HX⟩ K hK
            obtain ⟨h0, h1, h2, h3, h4, h5, h6, h7, h8⟩ := HV.out
            simp [Region.binds] at hd
            have dd11 : b 11 = true := by simp [hd]
            clear hd
            obtain ⟨i, ok, x1, x2, x3, x4, x5, x6⟩ := HX.out
            obtain ⟨d9, rfl⟩ := x3 dd11
            obtain ⟨rfl, hF⟩ := x1 d9
            go_simp
            exact hK _ _ ⟨_, _, _, _, _, _, _, _, _, _, _, _, _, _, _, rfl, Lib.hid ⟨h0, h1, h2, h3, h4, h5, h6, h7, h8⟩, HW, Lib.hid ⟨i, ok, fun _ => ⟨rfl, hF⟩, x2, x3, x4, fun _ => ⟨d9, rfl⟩, x6⟩⟩
          · rintro b a wy hb hd ⟨z5, z6, z24, z25, z26, z27, z28, z29, z30, z31, z32, z33, z34, z35, z36, rfl, HV, HW, HX⟩ K hK
            obtain ⟨h0, h1, h2, h3, h4, h5, h6, h7, h8⟩ := HV.out
            simp [Region.binds] at hd
            have dd12 : b 12 = true := by simp [hd]
            clear hd
            obtain ⟨i, ok, x1, x2, x3, x4, x5, x6⟩ := HX.out
            obtain ⟨d9, rfl⟩ := x4 dd12
            obtain ⟨rfl, hF⟩ := x1 d9
            go_simp
            exact hK _ _ ⟨_, _, _, _, _, _, _, _, _, _, _, _, _, _, _, rfl, Lib.hid ⟨h0, h1, h2, h3, h4, h5, h6, h7, h8⟩, HW, Lib.hid ⟨i, ok, fun _ => ⟨rfl, hF⟩, x2, x3, x4, x5, fun _ => ⟨d9, rfl⟩⟩⟩
        case doneF0 =>
          rintro b a wy hb ⟨z5, z6, z24, z25, z26, z27, z28, z29, z30, z31, z32, z33, z34, z35, z36, rfl, HV, HW, HX⟩
          obtain ⟨h0, h1, h2, h3, h4, h5, h6, h7, h8⟩ := HV.out
          obtain rfl := h0 (hb 0)
          obtain rfl := h1 (hb 1)
          obtain rfl := h2 (hb 2)
          obtain rfl := h3 (hb 3)
          obtain rfl := h4 (hb 4)
          obtain rfl := h5 (hb 5)
          obtain rfl := h6 (hb 6)
          obtain rfl := h7 (hb 7)
          obtain rfl := h8 (hb 8)
          clear HV h0 h1 h2 h3 h4 h5 h6 h7 h8
          obtain ⟨i, ok, x1, x2, x3, x4, x5, x6⟩ := HX.out
          obtain ⟨rfl, hF⟩ := x1 (hb 9)
          obtain ⟨_, rfl⟩ := x2 (hb 10)
          obtain ⟨_, rfl⟩ := x3 (hb 11)
          obtain ⟨_, rfl⟩ := x4 (hb 12)
          obtain ⟨_, rfl⟩ := x5 (hb 13)
          obtain ⟨_, rfl⟩ := x6 (hb 14)
          have HF := Lib.hid hF
          have HY := Lib.hid (HBr.out.trans (HW.out.mono HBr.out.size))
          have HRy := Lib.hid (HRr.out.below HRr.out.lt HW.out)
          have HTy1 := Lib.hid (HTa.out.below HW.out)
          have HTy2 := Lib.hid (HTb.out.below HW.out)
          clear x1 x2 x3 x4 x5 x6 hb HX HW hF
          cases ok
          · go_wp2_with fail
            go_roundw
            case rel => exact ⟨.inr (.inl ⟨by go_num, Lib.hid HF.out.none⟩), HY, HRy, HTy1, HTy2⟩
            case measure => simp [Go.RowKit.intOf]
          · have HK := Lib.hid (H.out.kept HY.out)
            go_wp2_with fail
            refine (place_any HK.out.pat HK.out.row rfl rfl rfl rfl HK.out.pg1 HF.out.lt.1 HG.out.l1_le (HG.out.may1 HF.out.lt.1 HF.out.lt.2) (HG.out.room1 HF.out.lt.1 HF.out.lt.2)).mono ?_
            rintro e w5 ⟨q', bk, rfl, hm5, hp5, hg5, hb5⟩
            have HZ := Lib.hid (HK.out.mv1 hp5 hg5 hb5)
            have HB5 := Lib.hid (((ButL.of_below A.list HY.out (Nat.le_refl _)).trans (hb5.mono (fun x hx => .inl (by simp [Adr.list] at hx ⊢; rcases hx with h | h | h | h | h <;> simp [h])))))
            dsimp only
            go_wp2_with fail
            go_ret
            exact ⟨true, x.mv1 i bk q', rfl, fun _ => .one i bk q' HF.out hm5, fun e => (by cases e), HZ.out, HB5.out⟩
      · go_upto_region 5 with (fail)
        refine Inv2.wp_region_inv (fun b a wy => ∃ z5 z6 z24 z25 z26 z27 z28 z29 z30 z31 z32 z33 z34 z35 z36, a = ⟨(List.toArray (.pointer (some ⟨A.W, 0, none⟩) :: undef :: u2 :: .pointer (some ⟨r, 0, none⟩) :: .int .i64 1 :: z5 :: z6 :: .pointer (some ⟨A.W, 0, none⟩) :: .pointer (some ⟨A.W, 0, none⟩) :: .pointer (some ⟨A.W, 0, none⟩) :: .pointer (some ⟨A.ta, 0, none⟩) :: z11 :: z12 :: .pointer (some ⟨A.W, 0, none⟩) :: .pointer (some ⟨A.W, 0, none⟩) :: .pointer (some ⟨A.W, 2, none⟩) :: .pointer (some ⟨A.W, 2, none⟩) :: .agg #[.slice (some ⟨A.g1, 0, none⟩) x.l1.length A.c1, .slice (some ⟨A.g2, 0, none⟩) x.l1.length A.c2] :: z18 :: z19 :: .agg #[z12, z19] :: .int .i64 1 :: .bool true :: .int .i64 1 :: z24 :: z25 :: z26 :: z27 :: z28 :: z29 :: z30 :: z31 :: z32 :: z33 :: z34 :: z35 :: z36 :: u37 :: u38 :: u39 :: u40 :: u41 :: u42 :: u43 :: u44 :: u45 :: u46 :: [])), []⟩ ∧ Hid ((b 0 = true → z25 = .pointer (some ⟨A.W, 0, none⟩)) ∧ (b 1 = true → z26 = .int .i64 1) ∧ (b 2 = true → z27 = .pointer (some ⟨A.W, 0, none⟩)) ∧ (b 3 = true → z28 = .pointer (some ⟨A.W, 2, none⟩)) ∧ (b 4 = true → z29 = .pointer (some ⟨A.W, 4, none⟩)) ∧ (b 5 = true → z30 = .agg #[.slice (some ⟨A.g3, 0, none⟩) x.l2.length A.c3, .slice (some ⟨A.g4, 0, none⟩) x.l2.length A.c4]) ∧ (b 6 = true → z31 = .int .i64 1) ∧ (b 7 = true → z32 = .pointer (some ⟨r, 1, none⟩)) ∧ (b 8 = true → z33 = z19)) ∧ Hid (Below wm.heap.size wm wy) ∧ Hid (∃ (i : Nat) (ok : Bool), (b 9 = true → z34 = .tuple #[.int .i64 (i : Int), .bool ok] ∧ FirstP x.l2 x.f2 x.S2 i ok) ∧ (b 10 = true → b 9 = true ∧ z24 = .tuple #[.int .i64 (i : Int), .bool ok]) ∧ (b 11 = true → b 9 = true ∧ z35 = .int .i64 (i : Int)) ∧ (b 12 = true → b 9 = true ∧ z36 = .bool ok) ∧ (b 13 = true → b 9 = true ∧ z5 = .int .i64 (i : Int)) ∧ (b 14 = true → b 9 = true ∧ z6 = .bool ok))) (by kernel_rfl) (by kernel_rfl) ?startF1 ?stepsF1 ?doneF1
        case startF1 =>
          intro b hb
          refine ⟨u5, u6, u24, u25, u26, u27, u28, u29, u30, u31, u32, u33, u34, u35, u36, rfl, Lib.hid ⟨?_, ?_, ?_, ?_, ?_, ?_, ?_, ?_, ?_⟩, Lib.hid ((show Still wm wm.drew from ⟨rfl, rfl, rfl, rfl⟩).below _), Lib.hid (⟨0, false, (fun e => by rw [hb _ (by decide)] at e; cases e), (fun e => by rw [hb _ (by decide)] at e; cases e), (fun e => by rw [hb _ (by decide)] at e; cases e), (fun e => by rw [hb _ (by decide)] at e; cases e), (fun e => by rw [hb _ (by decide)] at e; cases e), (fun e => by rw [hb _ (by decide)] at e; cases e)⟩)⟩
          all_goals (intro e; first | rfl | (rw [hb _ (by decide)] at e; cases e))
        case stepsF1 =>
          refine ⟨?_, ?_, ?_, ?_, ?_, ?_, ?_, ?_, ?_, ?_, ?_, ?_, ?_, ?_, ?_, trivial⟩
          · rintro b a wy hb hd ⟨z5, z6, z24, z25, z26, z27, z28, z29, z30, z31, z32, z33, z34, z35, z36, rfl, HV, HW, HX⟩ K hK
            obtain ⟨h0, h1, h2, h3, h4, h5, h6, h7, h8⟩ := HV.out
            clear hd
            go_simp
            exact hK _ _ ⟨_, _, _, _, _, _, _, _, _, _, _, _, _, _, _, rfl, Lib.hid ⟨fun _ => rfl, h1, h2, h3, h4, h5, h6, h7, h8⟩, HW, HX⟩
          · rintro b a wy hb hd ⟨z5, z6, z24, z25, z26, z27, z28, z29, z30, z31, z32, z33, z34, z35, z36, rfl, HV, HW, HX⟩ K hK
            obtain ⟨h0, h1, h2, h3, h4, h5, h6, h7, h8⟩ := HV.out
            clear hd
            go_simp
            exact hK _ _ ⟨_, _, _, _, _, _, _, _, _, _, _, _, _, _, _, rfl, Lib.hid ⟨h0, fun _ => rfl, h2, h3, h4, h5, h6, h7, h8⟩, HW, HX⟩
          · rintro b a wy hb hd ⟨z5, z6, z24, z25, z26, z27, z28, z29, z30, z31, z32, z33, z34, z35, z36, rfl, HV, HW, HX⟩ K hK
            obtain ⟨h0, h1, h2, h3, h4, h5, h6, h7, h8⟩ := HV.out
            simp [Region.binds] at hd
            obtain rfl := h0 (by simp [hd])
            clear hd
            go_simp
            exact hK _ _ ⟨_, _, _, _, _, _, _, _, _, _, _, _, _, _, _, rfl, Lib.hid ⟨h0, h1, fun _ => rfl, h3, h4, h5, h6, h7, h8⟩, HW, HX⟩
          · rintro b a wy hb hd ⟨z5, z6, z24, z25, z26, z27, z28, z29, z30, z31, z32, z33, z34, z35, z36, rfl, HV, HW, HX⟩ K hK
            obtain ⟨h0, h1, h2, h3, h4, h5, h6, h7, h8⟩ := HV.out
            simp [Region.binds] at hd
            obtain rfl := h2 (by simp [hd])
            clear hd
            go_simp
            exact hK _ _ ⟨_, _, _, _, _, _, _, _, _, _, _, _, _, _, _, rfl, Lib.hid ⟨h0, h1, h2, fun _ => rfl, h4, h5, h6, h7, h8⟩, HW, HX⟩
          · rintro b a wy hb hd ⟨z5, z6, z24, z25, z26, z27, z28, z29, z30, z31, z32, z33, z34, z35, z36, rfl, HV, HW, HX⟩ K hK
            obtain ⟨h0, h1, h2, h3, h4, h5, h6, h7, h8⟩ := HV.out
            simp [Region.binds] at hd
            obtain rfl := h3 (by simp [hd])
            obtain rfl := h1 (by simp [hd])
            clear hd
            go_simp
            exact hK _ _ ⟨_, _, _, _, _, _, _, _, _, _, _, _, _, _, _, rfl, Lib.hid ⟨h0, h1, h2, h3, fun _ => rfl, h5, h6, h7, h8⟩, HW, HX⟩
          · rintro b a wy hb hd ⟨z5, z6, z24, z25, z26, z27, z28, z29, z30, z31, z32, z33, z34, z35, z36, rfl, HV, HW, HX⟩ K hK
            obtain ⟨h0, h1, h2, h3, h4, h5, h6, h7, h8⟩ := HV.out
            simp [Region.binds] at hd
            obtain rfl := h4 (by simp [hd])
            clear hd
            have hrow := ((H.out.kept HBr.out).kept HW.out).row
            have q0 := hrow.cellAt (i := 4) rfl
            have q1 := hrow.cellAt (i := 5) rfl
            clear hrow
            go_simp
            exact hK _ _ ⟨_, _, _, _, _, _, _, _, _, _, _, _, _, _, _, rfl, Lib.hid ⟨h0, h1, h2, h3, h4, fun _ => rfl, h6, h7, h8⟩, HW, HX⟩
          · rintro b a wy hb hd ⟨z5, z6, z24, z25, z26, z27, z28, z29, z30, z31, z32, z33, z34, z35, z36, rfl, HV, HW, HX⟩ K hK
            obtain ⟨h0, h1, h2, h3, h4, h5, h6, h7, h8⟩ := HV.out
            clear hd
            go_simp
            exact hK _ _ ⟨_, _, _, _, _, _, _, _, _, _, _, _, _, _, _, rfl, Lib.hid ⟨h0, h1, h2, h3, h4, h5, fun _ => rfl, h7, h8⟩, HW, HX⟩
          · rintro b a wy hb hd ⟨z5, z6, z24, z25, z26, z27, z28, z29, z30, z31, z32, z33, z34, z35, z36, rfl, HV, HW, HX⟩ K hK
            obtain ⟨h0, h1, h2, h3, h4, h5, h6, h7, h8⟩ := HV.out
            simp [Region.binds] at hd
            obtain rfl := h6 (by simp [hd])
            clear hd
            go_simp
            exact hK _ _ ⟨_, _, _, _, _, _, _, _, _, _, _, _, _, _, _, rfl, Lib.hid ⟨h0, h1, h2, h3, h4, h5, h6, fun _ => rfl, h8⟩, HW, HX⟩
          · rintro b a wy hb hd ⟨z5, z6, z24, z25, z26, z27, z28, z29, z30, z31, z32, z33, z34, z35, z36, rfl, HV, HW, HX⟩ K hK
            obtain ⟨h0, h1, h2, h3, h4, h5, h6, h7, h8⟩ := HV.out
            simp [Region.binds] at hd
            obtain rfl := h7 (by simp [hd])
            clear hd
            have hrow := HRr.out.below HRr.out.lt HW.out
            have q0 := hrow.cellAt (i := 1) rfl
            clear hrow
            go_simp
            exact hK _ _ ⟨_, _, _, _, _, _, _, _, _, _, _, _, _, _, _, rfl, Lib.hid ⟨h0, h1, h2, h3, h4, h5, h6, h7, fun _ => rfl⟩, HW, HX⟩
          · rintro b a wy hb hd ⟨z5, z6, z24, z25, z26, z27, z28, z29, z30, z31, z32, z33, z34, z35, z36, rfl, HV, HW, HX⟩ K hK
            obtain ⟨h0, h1, h2, h3, h4, h5, h6, h7, h8⟩ := HV.out
            simp [Region.binds] at hd
            obtain rfl := h5 (by simp [hd])
            obtain rfl := h8 (by simp [hd])
            clear hd
            obtain ⟨⟨sp1, hs1⟩, ⟨sp2, hs2⟩⟩ := ((H.out.kept HBr.out).kept HW.out).pg2.row
            have HS1 := Lib.hid hs1
            have HS2 := Lib.hid hs2
            have HTT := Lib.hid (HTb.out.below HW.out)
            have HXO := Lib.hid (show ∀ j, (b j = true → b 9 = true) → ¬ b j = true from fun j h e => absurd (h e) (by rw [hb]; decide))
            clear hs1 hs2
            obtain ⟨i0, ok0, x1, x2, x3, x4, x5, x6⟩ := HX.out
            have n10 := Lib.hid (HXO.out 10 fun e => (x2 e).1)
            have n11 := Lib.hid (HXO.out 11 fun e => (x3 e).1)
            have n12 := Lib.hid (HXO.out 12 fun e => (x4 e).1)
            have n13 := Lib.hid (HXO.out 13 fun e => (x5 e).1)
            have n14 := Lib.hid (HXO.out 14 fun e => (x6 e).1)
            clear x1 x2 x3 x4 x5 x6 HX HXO
            go_simp
            go_at_call 58
            refine (first_any HS1.out HS2.out HG.out.fl2 HG.out.l2_le HTT.out).mono ?_
            rintro e wz ⟨i, ok, rfl, hF, kz⟩
            try go_simp
            exact hK _ _ ⟨_, _, _, _, _, _, _, _, _, _, _, _, _, _, _, rfl, Lib.hid ⟨h0, h1, h2, h3, h4, h5, h6, h7, h8⟩, Lib.hid (HW.out.trans (kz.mono HW.out.size)), Lib.hid ⟨i, ok, fun _ => ⟨rfl, hF⟩, fun e => absurd e n10.out, fun e => absurd e n11.out, fun e => absurd e n12.out, fun e => absurd e n13.out, fun e => absurd e n14.out⟩⟩
          · rintro b a wy hb hd ⟨z5, z6, z24, z25, z26, z27, z28, z29, z30, z31, z32, z33, z34, z35, z36, rfl, HV, HW, HX⟩ K hK
            obtain ⟨h0, h1, h2, h3, h4, h5, h6, h7, h8⟩ := HV.out
            simp [Region.binds] at hd
            have dd9 : b 9 = true := by simp [hd]
            clear hd
            obtain ⟨i, ok, x1, x2, x3, x4, x5, x6⟩ := HX.out
            obtain ⟨rfl, hF⟩ := x1 dd9
            go_simp
            exact hK _ _ ⟨_, _, _, _, _, _, _, _, _, _, _, _, _, _, _, rfl, Lib.hid ⟨h0, h1, h2, h3, h4, h5, h6, h7, h8⟩, HW, Lib.hid ⟨i, ok, x1, fun _ => ⟨dd9, rfl⟩, x3, x4, x5, x6⟩⟩
          · rintro b a wy hb hd ⟨z5, z6, z24, z25, z26, z27, z28, z29, z30, z31, z32, z33, z34, z35, z36, rfl, HV, HW, HX⟩ K hK
            obtain ⟨h0, h1, h2, h3, h4, h5, h6, h7, h8⟩ := HV.out
            simp [Region.binds] at hd
            have dd10 : b 10 = true := by simp [hd]
            clear hd
            obtain ⟨i, ok, x1, x2, x3, x4, x5, x6⟩ := HX.out
            obtain ⟨d9, rfl⟩ := x2 dd10
            obtain ⟨rfl, hF⟩ := x1 d9
            go_simp
            exact hK _ _ ⟨_, _, _, _, _, _, _, _, _, _, _, _, _, _, _, rfl, Lib.hid ⟨h0, h1, h2, h3, h4, h5, h6, h7, h8⟩, HW, Lib.hid ⟨i, ok, fun _ => ⟨rfl, hF⟩, x2, fun _ => ⟨d9, rfl⟩, x4, x5, x6⟩⟩
          · rintro b a wy hb hd ⟨z5, z6, z24, z25, z26, z27, z28, z29, z30, z31, z32, z33, z34, z35, z36, rfl, HV, HW, HX⟩ K hK
            obtain ⟨h0, h1, h2, h3, h4, h5, h6, h7, h8⟩ := HV.out
            simp [Region.binds] at hd
            have dd10 : b 10 = true := by simp [hd]
            clear hd
            obtain ⟨i, ok, x1, x2, x3, x4, x5, x6⟩ := HX.out
            obtain ⟨d9, rfl⟩ := x2 dd10
            obtain ⟨rfl, hF⟩ := x1 d9
            go_simp
            exact hK _ _ ⟨_, _, _, _, _, _, _, _, _, _, _, _, _, _, _, rfl, Lib.hid ⟨h0, h1, h2, h3, h4, h5, h6, h7, h8⟩, HW, Lib.hid ⟨i, ok, fun _ => ⟨rfl, hF⟩, x2, x3, fun _ => ⟨d9, rfl⟩, x5, x6⟩⟩
          · rintro b a wy hb hd ⟨z5, z6, z24, z25, z26, z27, z28, z29, z30, z31, z32, z33, z34, z35, z36, rfl, HV, HW, HX⟩ K hK
            obtain ⟨h0, h1, h2, h3, h4, h5, h6, h7, h8⟩ := HV.out
            simp [Region.binds] at hd
            have dd11 : b 11 = true := by simp [hd]
            clear hd
            obtain ⟨i, ok, x1, x2, x3, x4, x5, x6⟩ := HX.out
            obtain ⟨d9, rfl⟩ := x3 dd11
            obtain ⟨rfl, hF⟩ := x1 d9
            go_simp
            exact hK _ _ ⟨_, _, _, _, _, _, _, _, _, _, _, _, _, _, _, rfl, Lib.hid ⟨h0, h1, h2, h3, h4, h5, h6, h7, h8⟩, HW, Lib.hid ⟨i, ok, fun _ => ⟨rfl, hF⟩, x2, x3, x4, fun _ => ⟨d9, rfl⟩, x6⟩⟩
          · rintro b a wy hb hd ⟨z5, z6, z24, z25, z26, z27, z28, z29, z30, z31, z32, z33, z34, z35, z36, rfl, HV, HW, HX⟩ K hK
            obtain ⟨h0, h1, h2, h3, h4, h5, h6, h7, h8⟩ := HV.out
            simp [Region.binds] at hd
            have dd12 : b 12 = true := by simp [hd]
            clear hd
            obtain ⟨i, ok, x1, x2, x3, x4, x5, x6⟩ := HX.out
            obtain ⟨d9, rfl⟩ := x4 dd12
            obtain ⟨rfl, hF⟩ := x1 d9
            go_simp
            exact hK _ _ ⟨_, _, _, _, _, _, _, _, _, _, _, _, _, _, _, rfl, Lib.hid ⟨h0, h1, h2, h3, h4, h5, h6, h7, h8⟩, HW, Lib.hid ⟨i, ok, fun _ => ⟨rfl, hF⟩, x2, x3, x4, x5, fun _ => ⟨d9, rfl⟩⟩⟩
        case doneF1 =>
          rintro b a wy hb ⟨z5, z6, z24, z25, z26, z27, z28, z29, z30, z31, z32, z33, z34, z35, z36, rfl, HV, HW, HX⟩
          obtain ⟨h0, h1, h2, h3, h4, h5, h6, h7, h8⟩ := HV.out
          obtain rfl := h0 (hb 0)
          obtain rfl := h1 (hb 1)
          obtain rfl := h2 (hb 2)
          obtain rfl := h3 (hb 3)
          obtain rfl := h4 (hb 4)
          obtain rfl := h5 (hb 5)
          obtain rfl := h6 (hb 6)
          obtain rfl := h7 (hb 7)
          obtain rfl := h8 (hb 8)
          clear HV h0 h1 h2 h3 h4 h5 h6 h7 h8
          obtain ⟨i, ok, x1, x2, x3, x4, x5, x6⟩ := HX.out
          obtain ⟨rfl, hF⟩ := x1 (hb 9)
          obtain ⟨_, rfl⟩ := x2 (hb 10)
          obtain ⟨_, rfl⟩ := x3 (hb 11)
          obtain ⟨_, rfl⟩ := x4 (hb 12)
          obtain ⟨_, rfl⟩ := x5 (hb 13)
          obtain ⟨_, rfl⟩ := x6 (hb 14)
          have HF := Lib.hid hF
          have HY := Lib.hid (HBr.out.trans (HW.out.mono HBr.out.size))
          have HRy := Lib.hid (HRr.out.below HRr.out.lt HW.out)
          have HTy1 := Lib.hid (HTa.out.below HW.out)
          have HTy2 := Lib.hid (HTb.out.below HW.out)
          clear x1 x2 x3 x4 x5 x6 hb HX HW hF
          cases ok
          · go_wp2_with fail
            go_roundw
            case rel => exact ⟨.inr (.inr ⟨by go_num, HN1, Lib.hid HF.out.none⟩), HY, HRy, HTy1, HTy2⟩
            case measure => simp [Go.RowKit.intOf]
          · have HK := Lib.hid (H.out.kept HY.out)
            go_wp2_with fail
            refine (place_any HK.out.pat HK.out.row rfl rfl rfl rfl HK.out.pg2 HF.out.lt.1 HG.out.l2_le (HG.out.may2 HF.out.lt.1 HF.out.lt.2) (HG.out.room2 HF.out.lt.1 HF.out.lt.2)).mono ?_
            rintro e w5 ⟨q', bk, rfl, hm5, hp5, hg5, hb5⟩
            have HZ := Lib.hid (HK.out.mv2 hp5 hg5 hb5)
            have HB5 := Lib.hid (((ButL.of_below A.list HY.out (Nat.le_refl _)).trans (hb5.mono (fun x hx => .inl (by simp [Adr.list] at hx ⊢; rcases hx with h | h | h | h | h <;> simp [h])))))
            dsimp only
            go_wp2_with fail
            go_ret
            exact ⟨true, x.mv2 i bk q', rfl, fun _ => .two i bk q' HN1.out HF.out hm5, fun e => (by cases e), HZ.out, HB5.out⟩
      · go_wp2_with fail
        go_ret
        exact ⟨false, x, rfl, fun e => (by cases e), fun _ => ⟨⟨HN1.out, HN2.out⟩, rfl⟩, H.out.kept HBr.out, ButL.of_below A.list HBr.out (Nat.le_refl _)⟩
end Go.Proofs.Ytlemjegngnfanaa.Pl
