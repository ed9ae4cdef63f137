/- Pages are built: where they stand, in memory of their own, none placed. (Written by bin/gen_plbuild.py.) -/
import Derived.Test.YtlemjegngnfanaaPlD
namespace Go.Proofs.Ytlemjegngnfanaa.Pl
open Go.RowKit Go.Proofs.Ytlemjegngnfanaa.Oct Go.Proofs.Ytlemjegngnfanaa.Mv Go.Proofs.Ytlemjegngnfanaa.Tl Go.Proofs.Ytlemjegngnfanaa.Pk Go.Maps
set_option linter.unusedVariables false

theorem app_ints {w : World} {base b o c : Nat} {l : List Nat} (hs : HasV w b o (ints l)) (h0 : 0 < l.length) (hl : l.length ≤ 4096) (hb : base ≤ w.heap.size) (ty : TypeId) :
    ∃ g cp w', (Builtin.append_ #[31, 31] ty #[.slice none 0 0, .slice (some ⟨b, o, none⟩) l.length c]).run Try.prog w = .ok (.slice (some ⟨g, 0, none⟩) l.length cp) w' ∧ (∃ sp, RowV w' g 3 (ints l ++ sp)) ∧ base ≤ g ∧ Below w.heap.size w w' := by
  obtain ⟨i0, hi, hz0, hz1, hz2⟩ := info_parts int_info
  obtain ⟨v', w', hr, ho, hg, hnil⟩ := run_append_own (P := Try.prog) w base 31 ty 3 i0 (.int .i64 0) 1 8 Try.underlying31 hi hz0 hz1 hz2 rfl (by omega) _ _ _ (own_nil w base) ⟨b, o, none⟩ l.length c (ints l) (by rw [length_ints, Nat.mul_one])
    (fun j u hj => by
      rw [add_plain]
      exact hs.cellAt hj)
    (fun u hu => by simp [ints] at hu; obtain ⟨m, _, rfl⟩ := hu; rfl) (by unfold maxLen; simp; omega) (by simp; omega) hb
  rw [List.map_nil, List.nil_append, List.length_nil, Nat.zero_add] at ho
  have hB : Below w.heap.size w w' := ⟨hg.os, hg.tape, hg.output, hg.size, fun k hk => hg.block k hk (fun e => by cases e)⟩
  rcases ho.2 with ⟨rfl, e⟩ | ⟨g, cap, cur, rfl, hbg, hgg, hn, hm, hs, ht⟩
  · omega
  · refine ⟨g, cap, w', hr, ⟨cur.toList.drop (l.length * 1), ?_⟩, hbg, hB⟩
    have e : ints l ++ cur.toList.drop (l.length * 1) = cur.toList := by rw [← ht, List.take_append_drop]
    unfold RowV
    rw [e, hgg]
/-- All pages of a kind, in memory. -/
structure PgAt (w : World) (g1 g2 c1 c2 B : Nat) (l : List Nat) (f : List Bool) : Prop where
  at' : ∃ sp, RowV w g1 3 (ints l ++ sp)
  pl : ∃ sp, RowV w g2 4 (bools f ++ sp)
  len : f.length = l.length
  lo1 : B ≤ g1
  lo2 : B ≤ g2
section
variable {w w' : World} {g1 g2 c1 c2 B : Nat} {l : List Nat} {f : List Bool}
theorem PgAt.lt1 (h : PgAt w g1 g2 c1 c2 B l f) : g1 < w.heap.size := by obtain ⟨_, k⟩ := h.at'; exact k.lt
theorem PgAt.lt2 (h : PgAt w g1 g2 c1 c2 B l f) : g2 < w.heap.size := by obtain ⟨_, k⟩ := h.pl; exact k.lt
theorem PgAt.blocks (h : PgAt w g1 g2 c1 c2 B l f) (k1 : w'.heap[g1]? = w.heap[g1]?) (k2 : w'.heap[g2]? = w.heap[g2]?) : PgAt w' g1 g2 c1 c2 B l f :=
  ⟨(by obtain ⟨sp, k⟩ := h.at'; exact ⟨sp, k.block k1⟩), (by obtain ⟨sp, k⟩ := h.pl; exact ⟨sp, k.block k2⟩), h.len, h.lo1, h.lo2⟩
theorem PgAt.kept (h : PgAt w g1 g2 c1 c2 B l f) (k : Below w.heap.size w w') : PgAt w' g1 g2 c1 c2 B l f := h.blocks (k.block _ h.lt1) (k.block _ h.lt2)
theorem PgAt.ne (h : PgAt w g1 g2 c1 c2 B l f) : g1 ≠ g2 := by
  obtain ⟨_, k1⟩ := h.at'
  obtain ⟨_, k2⟩ := h.pl
  exact row_ne k1 k2 (by decide)
end
theorem pages_zero (w : World) : (zeroValue 90).run Try.prog w = .ok (.agg #[.slice none 0 0, .slice none 0 0]) w := by kernel_rfl
set_option maxRecDepth 100000 in
set_option maxHeartbeats 2000000 in
theorem build_any {w : World} {bb o c : Nat} {l : List Nat} (hs : HasV w bb o (ints l)) (hpos : 0 < l.length) (hl : l.length ≤ 4096) :
    Calls Try.prog 46 #[.slice (some ⟨bb, o, none⟩) l.length c] w fun e w' => ∃ g1 g2 c1, e = .returned (pgv g1 g2 l.length c1 l.length) ∧ PgAt w' g1 g2 c1 l.length w.heap.size l (List.replicate l.length false) ∧ Below w.heap.size w w' := by
  have HS := Lib.hid hs
  have hbl := hs.lt (by rw [length_ints]; exact hpos)
  have B1 := (Below.refl w.heap.size w).alloc (Nat.le_refl _) (.cells #[.slice none 0 0, .slice none 0 0] 90)
  have HR := Lib.hid (alloc_rowV w 90 [.slice none 0 0, .slice none 0 0])
  have HB := Lib.hid B1
  clear hs B1
  go_enter Try.func46, Try.ntmps46
  go_upto_region 1 with (fail)
  generalize w.alloc (.cells #[.slice none 0 0, .slice none 0 0] 90) = w1 at *
  obtain ⟨r, hr⟩ : ∃ r, r = w.heap.size := ⟨_, rfl⟩
  rw [← hr] at HR ⊢
  have HRR := Lib.hid hr
  clear hr
  refine Inv2.wp_region_inv (fun b a wy => ∃ z3 z4 z5 z6 z7 z8, a = ⟨#[.slice (some ⟨bb, o, none⟩) l.length c, undef, .pointer (some ⟨r, 0, none⟩), z3, z4, z5, z6, z7, z8], []⟩ ∧ Hid ((b 0 = true → z3 = .slice (some ⟨bb, o, none⟩) l.length c) ∧ (b 2 = true → z5 = .slice (some ⟨bb, o, none⟩) l.length c) ∧ (b 3 = true → z6 = .int .i64 (l.length : Int))) ∧ Hid (Below w.heap.size w wy) ∧ Hid (∃ g1 c1 g2, (b 1 = true → z4 = .slice (some ⟨g1, 0, none⟩) l.length c1 ∧ w.heap.size ≤ g1 ∧ ∃ sp, RowV wy g1 3 (ints l ++ sp)) ∧ (b 4 = true → z7 = .slice (some ⟨g2, 0, none⟩) l.length l.length ∧ w.heap.size ≤ g2 ∧ RowV wy g2 4 (bools (List.replicate l.length false))) ∧ (b 5 = true → z8 = .agg #[.slice (some ⟨g1, 0, none⟩) l.length c1, .slice (some ⟨g2, 0, none⟩) l.length l.length] ∧ b 1 = true ∧ b 4 = true) ∧ (b 6 = true → b 5 = true ∧ RowV wy r 90 [.slice (some ⟨g1, 0, none⟩) l.length c1, .slice (some ⟨g2, 0, none⟩) l.length l.length]) ∧ (b 6 = false → RowV wy r 90 [.slice none 0 0, .slice none 0 0]))) (by kernel_rfl) (by kernel_rfl) ?startE1 ?stepsE1 ?doneE1
  case startE1 =>
    intro b hb
    refine ⟨undef, undef, undef, undef, undef, undef, rfl, Lib.hid ⟨?_, ?_, ?_⟩, Lib.hid (HB.out.trans <| (show Still w1 w1.drew from ⟨rfl, rfl, rfl, rfl⟩).below _), Lib.hid (⟨0, 0, 0, (fun e => by rw [hb _ (by decide)] at e; cases e), (fun e => by rw [hb _ (by decide)] at e; cases e), (fun e => by rw [hb _ (by decide)] at e; cases e), (fun e => by rw [hb _ (by decide)] at e; cases e), fun _ => HR.out⟩)⟩
    all_goals (intro e; first | rfl | (rw [hb _ (by decide)] at e; cases e))
  case stepsE1 =>
    refine ⟨?_, ?_, ?_, ?_, ?_, ?_, ?_, trivial⟩
    · rintro b a wy hb hd ⟨z3, z4, z5, z6, z7, z8, rfl, HV, HW, HX⟩ K hK
      obtain ⟨h0, h2, h3⟩ := HV.out
      clear hd
      go_simp
      exact hK _ _ ⟨_, _, _, _, _, _, rfl, Lib.hid ⟨fun _ => rfl, h2, h3⟩, HW, HX⟩
    · rintro b a wy hb hd ⟨z3, z4, z5, z6, z7, z8, rfl, HV, HW, HX⟩ K hK
      obtain ⟨h0, h2, h3⟩ := HV.out
      simp [Region.binds] at hd
      obtain rfl := h0 (by simp [hd])
      clear hd
      obtain ⟨g1, c1, g2, x1, x4, x5, x6, x7⟩ := HX.out
      have hs2 := HS.out.below hbl HW.out
      obtain ⟨g, cp, w5, hrun, hsp, hge, hbel⟩ := app_ints (c := c) hs2 hpos hl (base := w.heap.size) HW.out.size 31
      refine if_wanted (by rfl) (wp_append_run (.const (.slice none 0 0)) (.tmp 3) 31 rfl _ _ rfl rfl _ w5 hrun ?_)
      exact hK _ _ ⟨_, _, _, _, _, _, rfl, Lib.hid ⟨h0, h2, h3⟩, Lib.hid (HW.out.trans (hbel.mono HW.out.size)), Lib.hid ⟨g, cp, g2, fun _ => ⟨rfl, hge, hsp⟩, fun e => ⟨(x4 e).1, (x4 e).2.1, (x4 e).2.2.below (x4 e).2.2.lt hbel⟩, fun e => absurd (x5 e).2.1 (by rw [hb]; decide), fun e => absurd (x5 (x6 e).1).2.1 (by rw [hb]; decide), fun e => (x7 e).below (x7 e).lt hbel⟩⟩
    · rintro b a wy hb hd ⟨z3, z4, z5, z6, z7, z8, rfl, HV, HW, HX⟩ K hK
      obtain ⟨h0, h2, h3⟩ := HV.out
      clear hd
      go_simp
      exact hK _ _ ⟨_, _, _, _, _, _, rfl, Lib.hid ⟨h0, fun _ => rfl, h3⟩, HW, HX⟩
    · rintro b a wy hb hd ⟨z3, z4, z5, z6, z7, z8, rfl, HV, HW, HX⟩ K hK
      obtain ⟨h0, h2, h3⟩ := HV.out
      simp [Region.binds] at hd
      obtain rfl := h2 (by simp [hd])
      clear hd
      go_simp
      exact hK _ _ ⟨_, _, _, _, _, _, rfl, Lib.hid ⟨h0, h2, fun _ => rfl⟩, HW, HX⟩
    · rintro b a wy hb hd ⟨z3, z4, z5, z6, z7, z8, rfl, HV, HW, HX⟩ K hK
      obtain ⟨h0, h2, h3⟩ := HV.out
      simp [Region.binds] at hd
      obtain rfl := h3 (by simp [hd])
      clear hd
      obtain ⟨g1, c1, g2, x1, x4, x5, x6, x7⟩ := HX.out
      have hmk := run_make_flags wy l.length hl
      go_simp
      have B2 := (Below.refl wy.heap.size wy).alloc (Nat.le_refl _) (.cells (bools (List.replicate l.length false)).toArray 4)
      have R2 := alloc_rowV wy 4 (bools (List.replicate l.length false))
      exact hK _ _ ⟨_, _, _, _, _, _, rfl, Lib.hid ⟨h0, h2, h3⟩, Lib.hid (HW.out.trans (B2.mono HW.out.size)), Lib.hid ⟨g1, c1, wy.heap.size, fun e => ⟨(x1 e).1, (x1 e).2.1, (by obtain ⟨sp, k⟩ := (x1 e).2.2; exact ⟨sp, k.below k.lt B2⟩)⟩, fun _ => ⟨rfl, HW.out.size, R2⟩, fun e => absurd (x5 e).2.2 (by rw [hb]; decide), fun e => absurd (x5 (x6 e).1).2.2 (by rw [hb]; decide), fun e => (x7 e).below (x7 e).lt B2⟩⟩
    · rintro b a wy hb hd ⟨z3, z4, z5, z6, z7, z8, rfl, HV, HW, HX⟩ K hK
      obtain ⟨h0, h2, h3⟩ := HV.out
      simp [Region.binds] at hd
      have dd1 : b 1 = true := by simp [hd]
      have dd4 : b 4 = true := by simp [hd]
      clear hd
      obtain ⟨g1, c1, g2, x1, x4, x5, x6, x7⟩ := HX.out
      obtain ⟨rfl, hg1, hsp⟩ := x1 dd1
      obtain ⟨rfl, hg2, hr2⟩ := x4 dd4
      go_simp
      exact hK _ _ ⟨_, _, _, _, _, _, rfl, Lib.hid ⟨h0, h2, h3⟩, HW, Lib.hid ⟨g1, c1, g2, fun _ => ⟨rfl, hg1, hsp⟩, fun _ => ⟨rfl, hg2, hr2⟩, fun _ => ⟨rfl, dd1, dd4⟩, fun e => absurd (x6 e).1 (by rw [hb]; decide), x7⟩⟩
    · rintro b a wy hb hd ⟨z3, z4, z5, z6, z7, z8, rfl, HV, HW, HX⟩ K hK
      obtain ⟨h0, h2, h3⟩ := HV.out
      simp [Region.binds] at hd
      have dd5 : b 5 = true := by simp [hd]
      clear hd
      obtain ⟨g1, c1, g2, x1, x4, x5, x6, x7⟩ := HX.out
      obtain ⟨rfl, d1, d4⟩ := x5 dd5
      obtain ⟨e1, hg1, sp, hsp⟩ := x1 d1
      obtain ⟨e4, hg2, hr2⟩ := x4 d4
      have hr := x7 hb
      have q0 := hr.cellAt (i := 0) rfl
      have q1 := hr.cellAt (i := 1) rfl
      have f0 := hr.free 0
      have f1 := hr.free 1
      have n1 : g1 ≠ r := row_ne hsp hr (by decide)
      have n2 : g2 ≠ r := row_ne hr2 hr (by decide)
      have hrl : w.heap.size ≤ r := by rw [HRR.out]; exact Nat.le_refl _
      have HA1 := Lib.hid (And.intro e1 (And.intro hg1 (show ∃ sp, RowV _ g1 3 (ints l ++ sp) from ⟨sp, (hsp.other (q := r) (i := 0) (v := .slice (some ⟨g1, 0, none⟩) l.length c1) n1).other (q := r) (i := 1) (v := .slice (some ⟨g2, 0, none⟩) l.length l.length) n1⟩)))
      have HA2 := Lib.hid (And.intro e4 (And.intro hg2 ((hr2.other (q := r) (i := 0) (v := .slice (some ⟨g1, 0, none⟩) l.length c1) n2).other (q := r) (i := 1) (v := .slice (some ⟨g2, 0, none⟩) l.length l.length) n2)))
      have HA3 := Lib.hid ((hr.set 0 (.slice (some ⟨g1, 0, none⟩) l.length c1)).set 1 (.slice (some ⟨g2, 0, none⟩) l.length l.length))
      have HD := Lib.hid (And.intro d1 (And.intro d4 dd5))
      have HU := Lib.hid (((ButL.set wy r 0 (.slice (some ⟨g1, 0, none⟩) l.length c1)).trans (ButL.set _ r 1 (.slice (some ⟨g2, 0, none⟩) l.length l.length))))
      clear e1 e4 hsp hr2 hr n1 n2 x1 x4 x5 x6 x7 HX
      go_simp
      have HW6 := Lib.hid (HW.out.trans (HU.out.below (B := w.heap.size) (by simp; exact hrl) HW.out.size))
      exact hK _ _ ⟨_, _, _, _, _, _, rfl, Lib.hid ⟨h0, h2, h3⟩, HW6, Lib.hid ⟨g1, c1, g2, fun _ => HA1.out, fun _ => HA2.out, fun _ => ⟨rfl, HD.out.1, HD.out.2.1⟩, fun _ => ⟨HD.out.2.2, HA3.out⟩, fun e => (by cases e)⟩⟩
  case doneE1 =>
    rintro b a wy hb ⟨z3, z4, z5, z6, z7, z8, rfl, HV, HW, HX⟩
    obtain ⟨h0, h2, h3⟩ := HV.out
    obtain rfl := h0 (hb 0)
    obtain rfl := h2 (hb 2)
    obtain rfl := h3 (hb 3)
    clear HV h0 h2 h3
    obtain ⟨g1, c1, g2, x1, x4, x5, x6, x7⟩ := HX.out
    obtain ⟨rfl, hg1, sp, hsp⟩ := x1 (hb 1)
    obtain ⟨rfl, hg2, hr2⟩ := x4 (hb 4)
    obtain ⟨rfl, _, _⟩ := x5 (hb 5)
    have hr := (x6 (hb 6)).2
    have HP := Lib.hid (show PgAt wy g1 g2 c1 l.length w.heap.size l (List.replicate l.length false) from ⟨⟨sp, hsp⟩, ⟨[], by rw [List.append_nil]; exact hr2⟩, by simp, hg1, hg2⟩)
    have q0 := hr.cellAt (i := 0) rfl
    have q1 := hr.cellAt (i := 1) rfl
    clear x1 x4 x5 x6 x7 hg1 hg2 hsp hr2 hr hb
    go_wp2_with fail
    refine bodyPost_ret (v := pgv g1 g2 l.length c1 l.length) ?_ rfl ?_
    · rw [results_cell_one rfl]
      unfold pgv
      go_simp
    · exact ⟨g1, g2, c1, rfl, HP.out, HW.out⟩
end Go.Proofs.Ytlemjegngnfanaa.Pl
