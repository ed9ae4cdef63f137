/- The reference's tally: Add. -/
import Derived.Test.YtlemjegngnfanaaTlT
import Derived.Test.YtlemjegngnfanaaInv2
namespace Go.Proofs.Ytlemjegngnfanaa.Tl
open Go.RowKit Go.Proofs.Ytlemjegngnfanaa.Oct Go.Proofs.Ytlemjegngnfanaa.Mv Go.Maps
set_option linter.unusedVariables false

theorem wp_append_run {P : Program} {w : World} {o : Oper} {a : Act} {K : Act → World → Prop} {Q : Exit → Act → World → Prop} (s x : Operand) (t : TypeId)
    (ho : o.op = .call { callee := .builtin .append, args := #[s, x], argTypes := #[t, t] }) (v1 v2 : Value) (hs : a.eval s = v1) (hx : a.eval x = v2) (v' : Value) (w' : World)
    (hrun : (Builtin.append_ #[t, t] o.type #[v1, v2]).run P w = .ok v' w') (h : K (a.put o.dst v') w') : o.wp P a w K Q := by
  unfold Oper.wp
  simp [execOp, ho, resolve, invoke, builtin, hs, hx, hrun, Result.andThen]
  exact h
theorem if_wanted {c : Bool} {A B : Prop} (h : c = true) (a : A) : if c = true then A else B := by rw [if_pos h]; exact a
/-- The counts, as numbers. -/
def nowI (l : List UInt16) : List Int := l.map fun c => (c.toNat : Int)
theorem length_nowI (l : List UInt16) : (nowI l).length = l.length := by simp [nowI]
theorem wide_nowI (l : List UInt16) : (nowI l).map (Value.int .i64) = wide l := by simp [nowI, wide]
theorem OwnI.hasWide {w : World} {base g n c : Nat} {l : List UInt16} (h : OwnI w base (.slice (some ⟨g, 0, none⟩) n c) (nowI l)) : HasV w g 0 (wide l) := by
  obtain ⟨_, hh⟩ := h
  rcases hh with ⟨e, _⟩ | ⟨g', cap, cur, e, hb, hgg, hn, hm, hs, ht⟩
  · cases e
  · simp only [Value.slice.injEq, Option.some.injEq, Addr.mk.injEq, and_true] at e
    obtain ⟨rfl, rfl, rfl⟩ := e
    intro i hi
    rw [length_wide] at hi
    rw [wide_nowI] at ht
    rw [Nat.zero_add, cell_of_row w g i cur _ (0, 0) hgg, ← Array.getElem?_toList]
    have : (cur.toList.take ((nowI l).length * 1))[i]? = (wide l)[i]? := by rw [ht]
    rw [List.getElem?_take, if_pos (by rw [length_nowI]; omega)] at this
    rw [this]
    simp [length_wide, hi]
theorem OwnI.ne {w : World} {base g n c r : Nat} {l : List Int} {T : TypeId} {vs : List Value} (h : OwnI w base (.slice (some ⟨g, 0, none⟩) n c) l) (R : RowV w r T vs) (hT : T ≠ 3) : g ≠ r := by
  rcases h.2 with ⟨e, _⟩ | ⟨g', cap, cur, e, hb, hgg, _⟩
  · cases e
  · simp only [Value.slice.injEq, Option.some.injEq, Addr.mk.injEq, and_true] at e
    obtain ⟨rfl, _, _⟩ := e
    rintro rfl
    unfold RowV at R
    rw [hgg] at R
    simp only [Option.some.injEq, Obj.cells.injEq] at R
    exact hT R.2.1.symm
theorem OwnI.block {w w' : World} {base g n c : Nat} {l : List Int} (h : OwnI w base (.slice (some ⟨g, 0, none⟩) n c) l) (k : w'.heap[g]? = w.heap[g]?) : OwnI w' base (.slice (some ⟨g, 0, none⟩) n c) l := by
  refine ⟨h.1, ?_⟩
  rcases h.2 with ⟨e, _⟩ | ⟨g', cap, cur, e, hb, hgg, rest⟩
  · cases e
  · have e' := e
    simp only [Value.slice.injEq, Option.some.injEq, Addr.mk.injEq, and_true] at e
    obtain ⟨rfl, _, _⟩ := e
    exact .inr ⟨g, cap, cur, e', hb, k.trans hgg, rest⟩
theorem OwnI.ge {w : World} {base g n c : Nat} {l : List Int} (h : OwnI w base (.slice (some ⟨g, 0, none⟩) n c) l) : base ≤ g ∧ g < w.heap.size := by
  rcases h.2 with ⟨e, _⟩ | ⟨g', cap, cur, e, hb, hgg, rest⟩
  · cases e
  · simp only [Value.slice.injEq, Option.some.injEq, Addr.mk.injEq, and_true] at e
    obtain ⟨rfl, _, _⟩ := e
    exact ⟨hb, (Array.getElem?_eq_some_iff.1 hgg).1⟩
theorem own_made (w : World) (base : Nat) (hb : base ≤ w.heap.size) : OwnI (w.alloc (.cells #[] 3)) base (.slice (some ⟨w.heap.size, 0, none⟩) 0 0) [] :=
  ⟨rfl, .inr ⟨w.heap.size, 0, #[], rfl, hb, heap_alloc_new w _, Nat.le_refl _, by unfold maxLen; omega, rfl, rfl⟩⟩
theorem app_wide {w : World} {base q b1 c1 : Nat} {l : List UInt16} (h : OwnI w base (.slice (some ⟨q, 0, none⟩) 0 0) []) (hs : HasV w b1 0 (wide l)) (h0 : 0 < l.length) (hl : l.length ≤ 4096) (hb : base ≤ w.heap.size) (ty : TypeId) :
    ∃ g c w', (Builtin.append_ #[31, 31] ty #[.slice (some ⟨q, 0, none⟩) 0 0, .slice (some ⟨b1, 0, none⟩) l.length c1]).run Try.prog w = .ok (.slice (some ⟨g, 0, none⟩) l.length c) w' ∧ OwnI w' base (.slice (some ⟨g, 0, none⟩) l.length c) (nowI l) ∧ w.grownBy w' (some q) := by
  obtain ⟨i0, hi, hz0, hz1, hz2⟩ := info_parts int_info
  obtain ⟨v', w', hr, ho, hg, hnil⟩ := run_append_own (P := Try.prog) w base 31 ty 3 i0 (.int .i64 0) 1 8 Try.underlying31 hi hz0 hz1 hz2 rfl (by omega) _ _ _ h ⟨b1, 0, none⟩ l.length c1 (wide l) (by rw [length_wide, Nat.mul_one])
    (fun j u hj => by
      rw [add_plain]
      exact hs.cellAt hj)
    (fun u hu => by simp [wide] at hu; obtain ⟨c, _, rfl⟩ := hu; rfl) (by unfold maxLen; simp; omega) (by simp; omega) hb
  rw [List.map_nil, List.nil_append, List.length_nil, Nat.zero_add] at ho
  rcases ho.2 with ⟨rfl, e⟩ | ⟨g, cap, cur, rfl, rest⟩
  · omega
  · exact ⟨g, cap, w', hr, ⟨by rw [List.length_map, Nat.mul_one], by rw [length_nowI, wide_nowI]; exact .inr ⟨g, cap, cur, rfl, rest⟩⟩, hg⟩
theorem OwnI.stored {w : World} {base g n c : Nat} {l : List UInt16} (h : OwnI w base (.slice (some ⟨g, 0, none⟩) n c) (nowI l)) (i : Nat) (z : UInt16) : OwnI (w.setCell ⟨g, i, none⟩ (.int .i64 (z.toNat : Int))) base (.slice (some ⟨g, 0, none⟩) n c) (nowI (l.set i z)) := by
  have hn : n = (nowI l).length := by
    rcases h.2 with ⟨e, _⟩ | ⟨g', cap, cur, e, _⟩
    · cases e
    · simp only [Value.slice.injEq] at e
      exact e.2.1
  subst hn
  have := (World.ownsRow.stored h i (.int .i64 (z.toNat : Int))).1
  unfold OwnI
  rw [show (nowI (l.set i z)).length = (nowI l).length by simp [nowI], wide_nowI, ← wide_set, ← wide_nowI]
  exact this
theorem OwnI.frozen {w : World} {base g n c : Nat} {l : List UInt16} (h : OwnI w base (.slice (some ⟨g, 0, none⟩) n c) (nowI l)) (i : Nat) : w.frozen? ⟨g, i, none⟩ = false := by
  rcases h.2 with ⟨e, _⟩ | ⟨g', cap, cur, e, hb, hgg, _⟩
  · cases e
  · simp only [Value.slice.injEq, Option.some.injEq, Addr.mk.injEq, and_true] at e
    obtain ⟨rfl, _, _⟩ := e
    simp [World.frozen?, hgg]
set_option maxRecDepth 100000 in
theorem radd_bad {w : World} {b1 c1 b2 c2 : Nat} {s : St} (h : RAt w b1 c1 b2 c2 s) (b y : Int) (hb : ¬ s.isIn b) :
    Calls Try.prog 18 #[rval s.n b1 c1 b2 c2, .int .i64 b, .int .i64 y] w fun e w' => e = .returned (.tuple #[rval s.n b1 c1 b2 c2, .int .i64 80]) ∧ Below w.heap.size w w' := by
  have hz := zero_rtally
  have B1 := (Below.refl w.heap.size w).alloc (Nat.le_refl _) (.cells #[.slice (some ⟨b1, 0, none⟩) s.n c1, .slice (some ⟨b2, 0, none⟩) s.n c2] 33)
  have B2 := B1.alloc B1.size (.cells #[.slice (some ⟨b1, 0, none⟩) s.n c1, .slice (some ⟨b2, 0, none⟩) s.n c2] 33)
  have HB := Lib.hid B2
  clear B1 B2
  unfold rval
  by_cases h0 : b < 0
  · clear hb
    go_enter Try.func18, Try.ntmps18
    go_wp2_with fail
    refine bodyPost_ret (v := .tuple #[.agg #[.slice (some ⟨b1, 0, none⟩) s.n c1, .slice (some ⟨b2, 0, none⟩) s.n c2], .int .i64 80]) ?_ rfl ⟨rfl, HB.out⟩
    rw [results_cell_tmp rfl]
    go_simp
  · have h1 : (s.n : Int) ≤ b := by unfold St.isIn at hb; omega
    clear hb
    go_enter Try.func18, Try.ntmps18
    go_wp2_with fail
    refine bodyPost_ret (v := .tuple #[.agg #[.slice (some ⟨b1, 0, none⟩) s.n c1, .slice (some ⟨b2, 0, none⟩) s.n c2], .int .i64 80]) ?_ rfl ⟨rfl, HB.out⟩
    rw [results_cell_tmp rfl]
    go_simp
set_option maxRecDepth 100000 in
theorem radd_off {w : World} {b1 c1 b2 c2 : Nat} {s : St} (h : RAt w b1 c1 b2 c2 s) (i : Nat) (hi : i < s.n) (y z r : Int) (hy : -1 ≤ y ∧ y ≤ 1) (hz : ((s.cnt i).toNat : Int) + y = z) (hr : (65535 < z ∧ r = 81) ∨ (z < 0 ∧ r = 82)) :
    Calls Try.prog 18 #[rval s.n b1 c1 b2 c2, .int .i64 (i : Int), .int .i64 y] w fun e w' => e = .returned (.tuple #[rval s.n b1 c1 b2 c2, .int .i64 r]) ∧ Below w.heap.size w w' := by
  have hzz := zero_rtally
  have B1 := (Below.refl w.heap.size w).alloc (Nat.le_refl _) (.cells #[.slice (some ⟨b1, 0, none⟩) s.n c1, .slice (some ⟨b2, 0, none⟩) s.n c2] 33)
  have B2 := B1.alloc B1.size (.cells #[.slice none 0 0, .slice none 0 0] 33)
  have B3 := B1.alloc B1.size (.cells #[.slice (some ⟨b1, 0, none⟩) s.n c1, .slice (some ⟨b2, 0, none⟩) s.n c2] 33)
  have cn := (h.below B2).cnt hi
  have HB := Lib.hid B3
  have hlt : (i : Int) < (s.n : Int) := by omega
  have hge : ¬ ((i : Int) < 0) := by omega
  have hge2 : (0 : Int) ≤ (i : Int) := by omega
  have hnle : ¬ ((s.n : Int) ≤ (i : Int)) := by omega
  have hu := u16_lt (s.cnt i)
  have hw1 := hy.1
  have hw2 := hy.2
  clear B1 B2 B3 h hy
  unfold rval
  rcases hr with ⟨hr, rfl⟩ | ⟨hr, rfl⟩
  · go_enter Try.func18, Try.ntmps18
    go_wp2_with fail
    refine bodyPost_ret (v := .tuple #[.agg #[.slice (some ⟨b1, 0, none⟩) s.n c1, .slice (some ⟨b2, 0, none⟩) s.n c2], .int .i64 81]) ?_ rfl ⟨rfl, HB.out⟩
    rw [results_cell_tmp rfl]
    go_simp
  · have hr2 : ¬ (65535 < z) := by omega
    go_enter Try.func18, Try.ntmps18
    go_wp2_with fail
    refine bodyPost_ret (v := .tuple #[.agg #[.slice (some ⟨b1, 0, none⟩) s.n c1, .slice (some ⟨b2, 0, none⟩) s.n c2], .int .i64 82]) ?_ rfl ⟨rfl, HB.out⟩
    rw [results_cell_tmp rfl]
    go_simp
set_option maxRecDepth 100000 in
theorem radd_ok {w : World} {b1 c1 b2 c2 : Nat} {s : St} (h : RAt w b1 c1 b2 c2 s) (i : Nat) (hi : i < s.n) (y : Int) (z : UInt16) (hy : -1 ≤ y ∧ y ≤ 1) (hz : ((s.cnt i).toNat : Int) + y = (z.toNat : Int)) :
    Calls Try.prog 18 #[rval s.n b1 c1 b2 c2, .int .i64 (i : Int), .int .i64 y] w fun e w' => ∃ d1 e1, e = .returned (.tuple #[rval s.n d1 e1 b2 c2, .int .i64 0]) ∧ RAt w' d1 e1 b2 c2 (s.put i z) ∧ Below w.heap.size w w' := by
  have hzz := zero_rtally
  have HL2 := Lib.hid h.lt2
  have B1 := (Below.refl w.heap.size w).alloc (Nat.le_refl _) (.cells #[.slice (some ⟨b1, 0, none⟩) s.n c1, .slice (some ⟨b2, 0, none⟩) s.n c2] 33)
  have R1 := alloc_rowV w 33 [.slice (some ⟨b1, 0, none⟩) s.n c1, .slice (some ⟨b2, 0, none⟩) s.n c2]
  have R2 := alloc_rowV (w.alloc (.cells #[.slice (some ⟨b1, 0, none⟩) s.n c1, .slice (some ⟨b2, 0, none⟩) s.n c2] 33)) 33 [.slice none 0 0, .slice none 0 0]
  have hsz : (w.alloc (.cells #[.slice (some ⟨b1, 0, none⟩) s.n c1, .slice (some ⟨b2, 0, none⟩) s.n c2] 33)).heap.size = w.heap.size + 1 := by simp
  have B2' := (Below.refl _ (w.alloc (.cells #[.slice (some ⟨b1, 0, none⟩) s.n c1, .slice (some ⟨b2, 0, none⟩) s.n c2] 33))).alloc (Nat.le_refl _) (.cells #[.slice none 0 0, .slice none 0 0] 33)
  have B2 := B1.alloc B1.size (.cells #[.slice none 0 0, .slice none 0 0] 33)
  have R1' := R1.below R1.lt B2'
  rw [hsz] at R2
  have H2 := Lib.hid (h.below B2)
  have HB := Lib.hid B2
  have HR1 := Lib.hid R1'
  have HR2 := Lib.hid R2
  have hlt : (i : Int) < (s.n : Int) := by omega
  have hge : ¬ ((i : Int) < 0) := by omega
  have hge2 : (0 : Int) ≤ (i : Int) := by omega
  have hnle : ¬ ((s.n : Int) ≤ (i : Int)) := by omega
  have hu := u16_lt (s.cnt i)
  have hzu := u16_lt z
  have hz1 : ¬ (65535 < (z.toNat : Int)) := by omega
  have hz2 : ¬ ((z.toNat : Int) < 0) := by omega
  have hw1 := hy.1
  have hw2 := hy.2
  clear B1 B2 B2' h hy R1 R2 R1' hsz
  unfold rval
  go_enter Try.func18, Try.ntmps18
  go_upto_region 1 with (fail)
  generalize (w.alloc (.cells #[.slice (some ⟨b1, 0, none⟩) s.n c1, .slice (some ⟨b2, 0, none⟩) s.n c2] 33)).alloc (.cells #[.slice none 0 0, .slice none 0 0] 33) = w2 at *
  have cn := H2.out.cnt hi
  have d0 := HR1.out.cellAt (i := 0) rfl
  have d1 := HR1.out.cellAt (i := 1) rfl
  go_upto_region 8 with (fail)
  refine Inv2.wp_region_inv (fun b a wy => ∃ z9 z33 z34 z35 z36 z37 z38 z39, a = ⟨(List.toArray (Value.agg #[Value.slice (some { block := b1, off := 0 }) s.n c1, Value.slice (some { block := b2, off := 0 }) s.n c2] :: Value.int IntKind.i64 ↑i :: Value.int IntKind.i64 y :: Value.pointer (some { block := w.heap.size, off := 0 }) :: undef :: undef :: Value.pointer (some { block := w.heap.size + 1, off := 0 }) :: Value.int IntKind.i64 0 :: Value.int IntKind.i64 ↑z.toNat :: z9 :: Value.int IntKind.i64 ↑i :: Value.bool false :: Value.bool false :: Value.int IntKind.i64 ↑i :: Value.pointer (some { block := w.heap.size, off := 0 }) :: Value.slice (some { block := b1, off := 0 }) s.n c1 :: Value.int IntKind.i64 ↑s.n :: Value.bool false :: Value.bool false :: undef :: Value.pointer (some { block := w.heap.size, off := 0 }) :: Value.slice (some { block := b1, off := 0 }) s.n c1 :: Value.int IntKind.i64 ↑i :: Value.pointer (some { block := b1, off := i }) :: Value.int IntKind.i64 ↑(s.cnt i).toNat :: Value.int IntKind.i64 y :: Value.int IntKind.i64 ↑z.toNat :: Value.int IntKind.i64 ↑z.toNat :: Value.bool false :: undef :: Value.int IntKind.i64 ↑z.toNat :: Value.bool false :: undef :: z33 :: z34 :: z35 :: z36 :: z37 :: z38 :: z39 :: undef :: undef :: undef :: undef :: undef :: undef :: [])), []⟩ ∧ Hid ((b 1 = true → z34 = .pointer (some ⟨w.heap.size, 0, none⟩)) ∧ (b 2 = true → z35 = .slice (some ⟨b1, 0, none⟩) s.n c1) ∧ (b 4 = true → z37 = .pointer (some ⟨w.heap.size, 1, none⟩)) ∧ (b 5 = true → z38 = .slice (some ⟨b2, 0, none⟩) s.n c2)) ∧ Hid (Below w2.heap.size w2 wy) ∧ Hid (∃ q g c r, (b 0 = true → b 3 = false → z33 = .slice (some ⟨q, 0, none⟩) 0 0 ∧ OwnI wy w2.heap.size (.slice (some ⟨q, 0, none⟩) 0 0) []) ∧ (b 3 = true → z36 = .slice (some ⟨g, 0, none⟩) s.n c ∧ OwnI wy w2.heap.size (.slice (some ⟨g, 0, none⟩) s.n c) (nowI s.now)) ∧ (b 6 = true → z39 = .agg #[z36, .slice (some ⟨b2, 0, none⟩) s.n c2]) ∧ (b 7 = true → b 8 = false → z9 = .pointer (some ⟨r, 0, none⟩) ∧ w2.heap.size ≤ r ∧ RowV wy r 33 [.slice none 0 0, .slice none 0 0]) ∧ (b 8 = true → z9 = .pointer (some ⟨r, 0, none⟩) ∧ w2.heap.size ≤ r ∧ RowV wy r 33 [z36, .slice (some ⟨b2, 0, none⟩) s.n c2]) ∧ (b 8 = true → b 0 = true ∧ b 3 = true ∧ b 6 = true ∧ b 7 = true) ∧ (b 6 = true → b 3 = true) ∧ (b 3 = true → b 0 = true))) (by kernel_rfl) (by kernel_rfl) ?startU8 ?stepsU8 ?doneU8
  case startU8 =>
    intro b hb
    refine ⟨undef, undef, undef, undef, undef, undef, undef, undef, rfl, Lib.hid ⟨?_, ?_, ?_, ?_⟩, Lib.hid ((show Still w2 w2.drew from ⟨rfl, rfl, rfl, rfl⟩).below _), Lib.hid (⟨0, 0, 0, 0, (fun e => by rw [hb _ (by decide)] at e; cases e), (fun e => by rw [hb _ (by decide)] at e; cases e), (fun e => by rw [hb _ (by decide)] at e; cases e), (fun e => by rw [hb _ (by decide)] at e; cases e), (fun e => by rw [hb _ (by decide)] at e; cases e), (fun e => by rw [hb _ (by decide)] at e; cases e), (fun e => by rw [hb _ (by decide)] at e; cases e), (fun e => by rw [hb _ (by decide)] at e; cases e)⟩)⟩
    all_goals (intro e; first | rfl | (rw [hb _ (by decide)] at e; cases e))
  case stepsU8 =>
    refine ⟨?_, ?_, ?_, ?_, ?_, ?_, ?_, ?_, ?_, trivial⟩
    · rintro b a wy hb hd ⟨z9, z33, z34, z35, z36, z37, z38, z39, rfl, HV, HW, HX⟩ K hK
      obtain ⟨h1, h2, h4, h5⟩ := HV.out
      clear hd
      go_simp
      obtain ⟨q, g, c, r, x0, x3, x6, x7, x8, x9, y6, y3⟩ := HX.out
      have B2 := (Below.refl wy.heap.size wy).alloc (Nat.le_refl _) (.cells #[] 3)
      exact hK _ _ ⟨_, _, _, _, _, _, _, _, rfl, Lib.hid ⟨h1, h2, h4, h5⟩, Lib.hid (HW.out.trans (B2.mono HW.out.size)), Lib.hid ⟨wy.heap.size, g, c, r, fun _ _ => ⟨rfl, own_made wy _ HW.out.size⟩, fun e => ⟨(x3 e).1, (x3 e).2.below B2⟩, x6, fun e e' => ⟨(x7 e e').1, (x7 e e').2.1, (x7 e e').2.2.below (x7 e e').2.2.lt B2⟩, fun e => ⟨(x8 e).1, (x8 e).2.1, (x8 e).2.2.below (x8 e).2.2.lt B2⟩, fun e => ⟨rfl, (x9 e).2⟩, y6, fun e => rfl⟩⟩
    · rintro b a wy hb hd ⟨z9, z33, z34, z35, z36, z37, z38, z39, rfl, HV, HW, HX⟩ K hK
      obtain ⟨h1, h2, h4, h5⟩ := HV.out
      clear hd
      go_simp
      exact hK _ _ ⟨_, _, _, _, _, _, _, _, rfl, Lib.hid ⟨fun _ => rfl, h2, h4, h5⟩, HW, HX⟩
    · rintro b a wy hb hd ⟨z9, z33, z34, z35, z36, z37, z38, z39, rfl, HV, HW, HX⟩ K hK
      obtain ⟨h1, h2, h4, h5⟩ := HV.out
      simp [Region.binds] at hd
      obtain rfl := h1 (by simp [hd])
      clear hd
      have hR1 := HR1.out.below HR1.out.lt HW.out
      have d0 := hR1.cellAt (i := 0) rfl
      have d1 := hR1.cellAt (i := 1) rfl
      clear hR1
      go_simp
      exact hK _ _ ⟨_, _, _, _, _, _, _, _, rfl, Lib.hid ⟨h1, fun _ => rfl, h4, h5⟩, HW, HX⟩
    · rintro b a wy hb hd ⟨z9, z33, z34, z35, z36, z37, z38, z39, rfl, HV, HW, HX⟩ K hK
      obtain ⟨h1, h2, h4, h5⟩ := HV.out
      simp [Region.binds] at hd
      have dd0 : b 0 = true := by simp [hd]
      obtain rfl := h2 (by simp [hd])
      clear hd
      obtain ⟨q, g, c, r, x0, x3, x6, x7, x8, x9, y6, y3⟩ := HX.out
      obtain ⟨rfl, hoq⟩ := x0 dd0 hb
      have hbb := HW.out.size
      obtain ⟨g', c', w', hrun, hog, hgr⟩ := app_wide (l := s.now) (c1 := c1) hoq (H2.out.below HW.out).now H2.out.ok.lo H2.out.ok.hi hbb 31
      have HGR := Lib.hid hgr
      have HOG := Lib.hid hog
      have HOQ := Lib.hid hoq
      have HX2 := Lib.hid (And.intro x6 (And.intro x7 (And.intro x8 (And.intro x9 (And.intro y6 y3)))))
      clear hgr hog hoq hbb HX x0 x3 x6 x7 x8 x9 y6 y3
      refine if_wanted (by rfl) (wp_append_run (.tmp 33) (.tmp 35) 31 rfl _ _ rfl rfl _ _ hrun ?_)
      obtain ⟨x6, x7, x8, x9, y6, y3⟩ := HX2.out
      exact hK _ _ ⟨_, _, _, _, _, _, _, _, rfl, Lib.hid ⟨h1, h2, h4, h5⟩, Lib.hid (HW.out.grown HGR.out HW.out.size (fun k e => by cases e; exact HOQ.out.ge.1)), Lib.hid ⟨q, g', c', r, fun _ e => (by cases e), fun _ => ⟨rfl, HOG.out⟩, fun e => absurd (y6 e) (by rw [hb]; decide), fun e e' => ⟨(x7 e e').1, (x7 e e').2.1, ((x7 e e').2.2).block (HGR.out.block r ((x7 e e').2.2).lt (fun ee => HOQ.out.ne ((x7 e e').2.2) (by decide) (by cases ee; rfl)))⟩, fun e => absurd (x9 e).2.1 (by rw [hb]; decide), fun e => absurd (x9 e).2.1 (by rw [hb]; decide), fun e => rfl, fun _ => dd0⟩⟩
    · rintro b a wy hb hd ⟨z9, z33, z34, z35, z36, z37, z38, z39, rfl, HV, HW, HX⟩ K hK
      obtain ⟨h1, h2, h4, h5⟩ := HV.out
      clear hd
      go_simp
      exact hK _ _ ⟨_, _, _, _, _, _, _, _, rfl, Lib.hid ⟨h1, h2, fun _ => rfl, h5⟩, HW, HX⟩
    · rintro b a wy hb hd ⟨z9, z33, z34, z35, z36, z37, z38, z39, rfl, HV, HW, HX⟩ K hK
      obtain ⟨h1, h2, h4, h5⟩ := HV.out
      simp [Region.binds] at hd
      obtain rfl := h4 (by simp [hd])
      clear hd
      have hR1 := HR1.out.below HR1.out.lt HW.out
      have d0 := hR1.cellAt (i := 0) rfl
      have d1 := hR1.cellAt (i := 1) rfl
      clear hR1
      go_simp
      exact hK _ _ ⟨_, _, _, _, _, _, _, _, rfl, Lib.hid ⟨h1, h2, h4, fun _ => rfl⟩, HW, HX⟩
    · rintro b a wy hb hd ⟨z9, z33, z34, z35, z36, z37, z38, z39, rfl, HV, HW, HX⟩ K hK
      obtain ⟨h1, h2, h4, h5⟩ := HV.out
      simp [Region.binds] at hd
      have dd3 : b 3 = true := by simp [hd]
      obtain rfl := h5 (by simp [hd])
      clear hd
      obtain ⟨q, g, c, r, x0, x3, x6, x7, x8, x9, y6, y3⟩ := HX.out
      obtain ⟨rfl, hog⟩ := x3 dd3
      have HX2 := Lib.hid (And.intro x0 (And.intro hog (And.intro x7 (And.intro x8 (And.intro x9 y3)))))
      clear HX x0 x3 x6 x7 x8 x9 y6 y3 hog
      go_simp
      obtain ⟨x0, hog, x7, x8, x9, y3⟩ := HX2.out
      exact hK _ _ ⟨_, _, _, _, _, _, _, _, rfl, Lib.hid ⟨h1, h2, h4, h5⟩, HW, Lib.hid ⟨q, g, c, r, x0, fun _ => ⟨rfl, hog⟩, fun _ => rfl, x7, fun e => absurd (x9 e).2.2.1 (by rw [hb]; decide), fun e => absurd (x9 e).2.2.1 (by rw [hb]; decide), fun _ => dd3, y3⟩⟩
    · rintro b a wy hb hd ⟨z9, z33, z34, z35, z36, z37, z38, z39, rfl, HV, HW, HX⟩ K hK
      obtain ⟨h1, h2, h4, h5⟩ := HV.out
      clear hd
      go_simp
      obtain ⟨q, g, c, r, x0, x3, x6, x7, x8, x9, y6, y3⟩ := HX.out
      have B2 := (Below.refl wy.heap.size wy).alloc (Nat.le_refl _) (.cells #[.slice none 0 0, .slice none 0 0] 33)
      exact hK _ _ ⟨_, _, _, _, _, _, _, _, rfl, Lib.hid ⟨h1, h2, h4, h5⟩, Lib.hid (HW.out.trans (B2.mono HW.out.size)), Lib.hid ⟨q, g, c, wy.heap.size, fun e e3 => ⟨(x0 e e3).1, (x0 e e3).2.below B2⟩, fun e => ⟨(x3 e).1, (x3 e).2.below B2⟩, x6, fun _ _ => ⟨rfl, HW.out.size, alloc_rowV wy _ [.slice none 0 0, .slice none 0 0]⟩, fun e => absurd ((x9 e).2.2.2) (by rw [hb]; decide), fun e => absurd ((x9 e).2.2.2) (by rw [hb]; decide), y6, y3⟩⟩
    · rintro b a wy hb hd ⟨z9, z33, z34, z35, z36, z37, z38, z39, rfl, HV, HW, HX⟩ K hK
      obtain ⟨h1, h2, h4, h5⟩ := HV.out
      simp [Region.binds] at hd
      have dd7 : b 7 = true := by simp [hd]
      have dd6 : b 6 = true := by simp [hd]
      clear hd
      obtain ⟨q, g, c, r, x0, x3, x6, x7, x8, x9, y6, y3⟩ := HX.out
      obtain ⟨rfl, hrl, hrow⟩ := x7 dd7 hb
      obtain rfl := x6 dd6
      obtain ⟨rfl, hog⟩ := x3 (y6 dd6)
      have e0 := hrow.cellAt (i := 0) rfl
      have e1 := hrow.cellAt (i := 1) rfl
      have f0 := hrow.free 0
      have f1 := hrow.free 1
      have hne := hog.ne hrow (by decide)
      have HRS := Lib.hid ((hrow.set 0 (.slice (some ⟨g, 0, none⟩) s.n c)).set 1 (.slice (some ⟨b2, 0, none⟩) s.n c2))
      have HGS := Lib.hid ((hog.block (w' := wy.setCell ⟨r, 0, none⟩ (.slice (some ⟨g, 0, none⟩) s.n c)) (heap_setCell_other _ _ _ _ hne)).block (w' := (wy.setCell ⟨r, 0, none⟩ (.slice (some ⟨g, 0, none⟩) s.n c)).setCell ⟨r, 1, none⟩ (.slice (some ⟨b2, 0, none⟩) s.n c2)) (heap_setCell_other _ _ _ _ hne))
      have HWS := Lib.hid ((HW.out.setCell (p := ⟨r, 0, none⟩) hrl (.slice (some ⟨g, 0, none⟩) s.n c)).setCell (p := ⟨r, 1, none⟩) hrl (.slice (some ⟨b2, 0, none⟩) s.n c2))
      have HD := Lib.hid (And.intro hrl (And.intro dd7 (And.intro dd6 (And.intro (y6 dd6) (And.intro y6 y3)))))
      clear hrl hog hrow hne HX x0 x3 x6 x7 x8 x9 y6 y3
      go_simp
      exact hK _ _ ⟨_, _, _, _, _, _, _, _, rfl, Lib.hid ⟨h1, h2, h4, h5⟩, HWS, Lib.hid ⟨q, g, c, r, fun _ e3 => absurd e3 (by show ¬ b 3 = false; rw [HD.out.2.2.2.1]; decide), fun _ => ⟨rfl, HGS.out⟩, fun _ => rfl, fun _ e => (by cases e), fun _ => ⟨rfl, HD.out.1, HRS.out⟩, fun _ => ⟨HD.out.2.2.2.2.2 HD.out.2.2.2.1, HD.out.2.2.2.1, HD.out.2.2.1, HD.out.2.1⟩, HD.out.2.2.2.2.1, HD.out.2.2.2.2.2⟩⟩
  case doneU8 =>
    rintro b a wy hb ⟨z9, z33, z34, z35, z36, z37, z38, z39, rfl, HV, HW, HX⟩
    obtain ⟨h1, h2, h4, h5⟩ := HV.out
    obtain rfl := h1 (hb 1)
    obtain rfl := h2 (hb 2)
    obtain rfl := h4 (hb 4)
    obtain rfl := h5 (hb 5)
    clear HV h1 h2 h4 h5
    obtain ⟨q, g, c, r, -, x3, -, -, x8, -⟩ := HX.out
    obtain ⟨rfl, hog⟩ := x3 (hb 3)
    obtain ⟨rfl, hrl, hrow⟩ := x8 (hb 8)
    have HG := Lib.hid hog
    have HRO := Lib.hid hrow
    have HNE := Lib.hid (hog.ne hrow (by decide))
    have hgw := hog.hasWide.cellAt (wide_at s.now i hi)
    rw [Nat.zero_add] at hgw
    have fg := hog.frozen i
    clear d0 d1 cn
    have d0 := hrow.cellAt (i := 0) rfl
    have HB4 := Lib.hid (HB.out.trans (HW.out.mono HB.out.size))
    have HGL := Lib.hid hog.ge
    have HRL := Lib.hid hrl
    have HI := Lib.hid hi
    clear hog hrow x3 x8 HX hb hrl
    go_upto_region 10 with (fail)
    have HRO4 := Lib.hid (HRO.out.other (i := i) (v := .int .i64 (z.toNat : Int)) (fun e => HNE.out e.symm))
    have hsl := HR2.out.lt
    have hgl := HGL.out.1
    have HR24 := Lib.hid ((HR2.out.below HR2.out.lt HW.out).other (q := g) (i := i) (v := .int .i64 (z.toNat : Int)) (by omega))
    have HG4 := Lib.hid (HG.out.stored i z)
    have HK4 := Lib.hid ((H2.out.kept.below H2.out.lt2 HW.out).block (w' := wy.setCell ⟨g, i, none⟩ (.int .i64 (z.toNat : Int))) (heap_setCell_other _ _ _ _ (by have := H2.out.lt2; show b2 ≠ g; omega)))
    have HB5 := Lib.hid (HB4.out.setCell (p := ⟨g, i, none⟩) (Nat.le_trans HB.out.size HGL.out.1) (.int .i64 (z.toNat : Int)))
    clear d0 hgw fg
    generalize wy.setCell ⟨g, i, none⟩ (.int .i64 (z.toNat : Int)) = w4 at *
    have d0 := HRO4.out.cellAt (i := 0) rfl
    have d1 := HRO4.out.cellAt (i := 1) rfl
    have e0 := HR24.out.cellAt (i := 0) rfl
    have e1 := HR24.out.cellAt (i := 1) rfl
    have f0 := HR24.out.free 0
    have f1 := HR24.out.free 1
    have HGN := Lib.hid (show g ≠ w.heap.size + 1 by omega)
    have HBN := Lib.hid (show b2 ≠ w.heap.size + 1 by have := HL2.out; omega)
    clear hsl hgl
    go_wp2_with fail
    have HR5 := Lib.hid ((HR24.out.set 0 (.slice (some ⟨g, 0, none⟩) s.n c)).set 1 (.slice (some ⟨b2, 0, none⟩) s.n c2))
    have hn5 := (HG4.out.hasWide.block (w' := w4.setCell ⟨w.heap.size + 1, 0, none⟩ (.slice (some ⟨g, 0, none⟩) s.n c)) (heap_setCell_other _ _ _ _ HGN.out)).block (w' := (w4.setCell ⟨w.heap.size + 1, 0, none⟩ (.slice (some ⟨g, 0, none⟩) s.n c)).setCell ⟨w.heap.size + 1, 1, none⟩ (.slice (some ⟨b2, 0, none⟩) s.n c2)) (heap_setCell_other _ _ _ _ HGN.out)
    have hk5 := (HK4.out.block (w' := w4.setCell ⟨w.heap.size + 1, 0, none⟩ (.slice (some ⟨g, 0, none⟩) s.n c)) (heap_setCell_other _ _ _ _ HBN.out)).block (w' := (w4.setCell ⟨w.heap.size + 1, 0, none⟩ (.slice (some ⟨g, 0, none⟩) s.n c)).setCell ⟨w.heap.size + 1, 1, none⟩ (.slice (some ⟨b2, 0, none⟩) s.n c2)) (heap_setCell_other _ _ _ _ HBN.out)
    have HB6 := Lib.hid ((HB5.out.setCell (p := ⟨w.heap.size + 1, 0, none⟩) (by show w.heap.size ≤ w.heap.size + 1; omega) (.slice (some ⟨g, 0, none⟩) s.n c)).setCell (p := ⟨w.heap.size + 1, 1, none⟩) (by show w.heap.size ≤ w.heap.size + 1; omega) (.slice (some ⟨b2, 0, none⟩) s.n c2))
    refine bodyPost_ret (v := .tuple #[.agg #[.slice (some ⟨g, 0, none⟩) s.n c, .slice (some ⟨b2, 0, none⟩) s.n c2], .int .i64 0]) ?_ rfl ⟨_, _, rfl, ⟨hn5, hk5, H2.out.ok.put i z⟩, HB6.out⟩
    clear hn5 hk5 d0 d1 e0 e1 f0 f1
    generalize (w4.setCell ⟨w.heap.size + 1, 0, none⟩ (.slice (some ⟨g, 0, none⟩) s.n c)).setCell ⟨w.heap.size + 1, 1, none⟩ (.slice (some ⟨b2, 0, none⟩) s.n c2) = w5 at *
    have d0 := HR5.out.cellAt (i := 0) rfl
    have d1 := HR5.out.cellAt (i := 1) rfl
    rw [results_cell_tmp rfl]
    go_simp
/-- Add of one. -/
theorem radd_up {w : World} {b1 c1 b2 c2 : Nat} {s : St} (h : RAt w b1 c1 b2 c2 s) (b : Int) :
    Calls Try.prog 18 #[rval s.n b1 c1 b2 c2, .int .i64 b, .int .i64 1] w fun e w' => ∃ d1 e1, e = .returned (.tuple #[rval s.n d1 e1 b2 c2, .int .i64 (s.up b).1]) ∧ RAt w' d1 e1 b2 c2 (s.up b).2 ∧ Below w.heap.size w w' := by
  unfold St.up
  by_cases hb : s.isIn b
  · rw [if_pos hb]
    obtain ⟨i, rfl⟩ : ∃ i : Nat, b = (i : Int) := ⟨b.toNat, by have := hb.1; omega⟩
    have hi : i < s.n := by have := hb.2; omega
    rw [Int.toNat_natCast]
    by_cases hx : s.cnt i = 65535
    · rw [if_pos hx]
      refine (radd_off h i hi 1 _ 81 (by omega) rfl (.inl ⟨?_, rfl⟩)).mono fun e w' ⟨h1, h2⟩ => ⟨_, _, h1, h.below h2, h2⟩
      rw [hx]
      decide
    · rw [if_neg hx]
      have hne : (s.cnt i).toNat ≠ 65535 := fun e => hx (UInt16.toNat_inj.1 (by rw [e]; rfl))
      have hu := u16_lt (s.cnt i)
      exact radd_ok h i hi 1 (s.cnt i + 1) (by omega) (by rw [UInt16.toNat_add]; show _ = ((((s.cnt i).toNat + 1) % 65536 : Nat) : Int); omega)
  · rw [if_neg hb]
    exact (radd_bad h b 1 hb).mono fun e w' ⟨h1, h2⟩ => ⟨_, _, h1, h.below h2, h2⟩
/-- Add of one less. -/
theorem radd_down {w : World} {b1 c1 b2 c2 : Nat} {s : St} (h : RAt w b1 c1 b2 c2 s) (b : Int) :
    Calls Try.prog 18 #[rval s.n b1 c1 b2 c2, .int .i64 b, .int .i64 (-1)] w fun e w' => ∃ d1 e1, e = .returned (.tuple #[rval s.n d1 e1 b2 c2, .int .i64 (s.down b).1]) ∧ RAt w' d1 e1 b2 c2 (s.down b).2 ∧ Below w.heap.size w w' := by
  unfold St.down
  by_cases hb : s.isIn b
  · rw [if_pos hb]
    obtain ⟨i, rfl⟩ : ∃ i : Nat, b = (i : Int) := ⟨b.toNat, by have := hb.1; omega⟩
    have hi : i < s.n := by have := hb.2; omega
    rw [Int.toNat_natCast]
    by_cases hx : s.cnt i = 0
    · rw [if_pos hx]
      refine (radd_off h i hi (-1) _ 82 (by omega) rfl (.inr ⟨?_, rfl⟩)).mono fun e w' ⟨h1, h2⟩ => ⟨_, _, h1, h.below h2, h2⟩
      rw [hx]
      decide
    · rw [if_neg hx]
      have hne : (s.cnt i).toNat ≠ 0 := fun e => hx (UInt16.toNat_inj.1 (by rw [e]; rfl))
      have hu := u16_lt (s.cnt i)
      exact radd_ok h i hi (-1) (s.cnt i - 1) (by omega) (by rw [UInt16.toNat_sub]; show _ = (((65536 - 1 + (s.cnt i).toNat) % 65536 : Nat) : Int); omega)
  · rw [if_neg hb]
    exact (radd_bad h b (-1) hb).mono fun e w' ⟨h1, h2⟩ => ⟨_, _, h1, h.below h2, h2⟩
end Go.Proofs.Ytlemjegngnfanaa.Tl

