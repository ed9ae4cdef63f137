/- The chapter's examples: the walk. (Written by bin/gen_plawake.py.) -/
import Derived.Test.YtlemjegngnfanaaPlT
namespace Go.Proofs.Ytlemjegngnfanaa.Pl
open Go.RowKit Go.Proofs.Ytlemjegngnfanaa.Oct Go.Proofs.Ytlemjegngnfanaa.Mv Go.Proofs.Ytlemjegngnfanaa.Tl Go.Proofs.Ytlemjegngnfanaa.Pk Go.Maps
set_option linter.unusedVariables false

theorem same_eq {w : World} {A1 A2 : Option Addr} {c1 c2 n m : Nat} {l k : List Nat} (h1 : ToldV w A1 (ints l)) (h2 : ToldV w A2 (ints k)) (hl : l.length = n) (hm : k.length = m) (hn : n ≤ 4096) (hm2 : m ≤ 4096) (r : Bool) (hr : decide (l = k) = r) :
    Calls Try.prog 24 #[.slice A1 n c1, .slice A2 m c2] w fun e w' => e = .returned (.bool r) ∧ Below w.heap.size w w' := by
  subst hl hm hr
  exact same_any h1 h2 (by omega) (by omega)
theorem ex_below {w w' : World} {g : Nat} {T : TypeId} {vs : List Value} (h : ∃ sp, RowV w g T (vs ++ sp)) (k : Below w.heap.size w w') : ∃ sp, RowV w' g T (vs ++ sp) := by
  obtain ⟨sp, h1⟩ := h
  exact ⟨sp, h1.below h1.lt k⟩
section
variable {w w' : World} {p a cb mb c g : Nat} {q : Q} {T : TypeId} {vs : List Value}
theorem turn_row (hp : PAt w p a cb mb c q) (b : ButL w w' [cb, mb, p]) (k : RowV w g T vs) (hT : T ≠ 85 ∧ T ≠ 80 ∧ T ≠ 22) : RowV w' g T vs := by
  have f := PAt.off hp k hT.1 hT.2.1 hT.2.2
  exact k.block (b.block _ k.lt (by simp; exact ⟨f.2.2.1, f.2.2.2, f.1⟩))
theorem turn_ex (hp : PAt w p a cb mb c q) (b : ButL w w' [cb, mb, p]) (k : ∃ sp, RowV w g T (vs ++ sp)) (hT : T ≠ 85 ∧ T ≠ 80 ∧ T ≠ 22) : ∃ sp, RowV w' g T (vs ++ sp) := by
  obtain ⟨sp, k1⟩ := k
  exact ⟨sp, turn_row hp b k1 hT⟩
theorem butL_of3 (b : But3 w w' cb mb p) : ButL w w' [cb, mb, p] := ButL.of_but3 b
theorem butL_of2 (b : But w w' cb mb) : ButL w w' [cb, mb, p] := (ButL.of_but b).mono (fun x hx => .inl (by simp at hx ⊢; rcases hx with h | h <;> simp [h]))
end
set_option maxRecDepth 100000 in
set_option maxHeartbeats 8000000 in
theorem awake_any (w : World) :
    Calls Try.prog 27 #[] w fun e w' => e = .returned (.bool true) ∧ Below w.heap.size w w' := by
  have hz := sheet_zero
  go_enter Try.func27, Try.ntmps27
  go_wp2_with fail
  refine (new_yes 16 (by omega) (by omega) _).mono ?_
  rintro e w1 ⟨ta, cb, mb, rfl, hf⟩
  have HF := Lib.hid hf
  have HLO := Lib.hid (And.intro hf.ha (And.intro hf.hc hf.hm))
  clear hf
  go_wp2_with fail
  refine (pnew_yes HF.out.at' 2 (by rw [n_new]; omega)).mono ?_
  rintro e w2 ⟨p, rfl, hp⟩
  have HP := Lib.hid (show PAt w2 p ta cb mb 16 (q0 16) from hp.at')
  have HB := Lib.hid (HF.out.below.trans (hp.below.mono HF.out.below.size))
  have HLP := Lib.hid (Nat.le_trans HF.out.below.size hp.hp)
  clear hp HF
  go_wp2_with fail
  refine (empty_any 16 (by omega) _).mono ?_
  rintro e w3 ⟨e1, e3, rfl, r1, r3, _, _, bz⟩
  replace HP := Lib.hid (HP.out.kept bz)
  replace HB := Lib.hid (HB.out.trans (bz.mono HB.out.size))
  clear bz
  have HE1 := Lib.hid (show ToldV w3 (some ⟨e1, 0, none⟩) (ints [0]) from has_told (T := 3) ⟨[], by rw [List.append_nil]; exact r1⟩)
  have HE3 := Lib.hid (show ToldV w3 (some ⟨e3, 0, none⟩) (ints [0]) from has_told (T := 3) ⟨[], by rw [List.append_nil]; exact r3⟩)
  clear r1 r3
  have g16 : pg 16 = 1 := by decide
  have g1 : pg 1 = 1 := by decide
  rw [g16, g1]
  go_wp2_with fail
  refine (place_eq HP.out (c1 := 1) (c2 := 1) HE1.out HE3.out aright1 aroom.1 (n := 1) (m := 1) rfl rfl arun1).mono ?_
  rintro e w4 ⟨s1, d1, s3, d3, v1, v2, rfl, hpat, hr1, hr3, hv1, hv2, hlo1, hlo3, hbut⟩
  obtain ⟨A1, k1, rfl, _⟩ := hv1
  obtain ⟨A2, k2, rfl, _⟩ := hv2
  clear HE1 HE3
  have hd : (doneL [true]).length = 1 := by decide
  rw [hd]
  replace HB := Lib.hid (HB.out.trans (hbut.below (by simp; exact ⟨HLO.out.2.1, HLO.out.2.2, HLP.out⟩) HB.out.size))
  replace HP := Lib.hid (show PAt w4 p ta cb mb 16 aq2 from hpat)
  have HR1 := Lib.hid (show ∃ sp, RowV w4 s1 3 (ints [2] ++ sp) from hr1)
  have HR3 := Lib.hid (show ∃ sp, RowV w4 s3 3 (ints [3] ++ sp) from hr3)
  clear hpat hr1 hr3 hlo1 hlo3 hbut
  go_wp2_with fail
  have bz := (Below.refl w4.heap.size w4).alloc (Nat.le_refl _) (.cells #[.slice (some ⟨s1, 0, none⟩) 1 d1, .slice (some ⟨s3, 0, none⟩) 1 d3] 42)
  replace HP := Lib.hid (HP.out.kept bz)
  replace HB := Lib.hid (HB.out.trans (bz.mono HB.out.size))
  replace HR1 := Lib.hid (ex_below HR1.out bz)
  replace HR3 := Lib.hid (ex_below HR3.out bz)
  have HX5 := Lib.hid (alloc_rowV w4 42 [.slice (some ⟨s1, 0, none⟩) 1 d1, .slice (some ⟨s3, 0, none⟩) 1 d3])
  obtain ⟨x5, hx5⟩ : ∃ x, x = w4.heap.size := ⟨_, rfl⟩
  rw [← hx5] at HX5 ⊢
  clear bz hx5
  generalize w4.alloc (.cells #[.slice (some ⟨s1, 0, none⟩) 1 d1, .slice (some ⟨s3, 0, none⟩) 1 d3] 42) = w5 at *
  refine (counts_yes HP.out.tally 0 (by decide)).mono ?_
  rintro e w6 ⟨cg, rfl, hcr, hclo, bz⟩
  have hm16 : many aq2.s 0 = 16 := by decide
  rw [hm16]
  have HCR := Lib.hid hcr
  replace HP := Lib.hid (HP.out.kept bz)
  replace HB := Lib.hid (HB.out.trans (bz.mono HB.out.size))
  replace HR1 := Lib.hid (ex_below HR1.out bz)
  replace HR3 := Lib.hid (ex_below HR3.out bz)
  replace HX5 := Lib.hid (HX5.out.below HX5.out.lt bz)
  clear bz
  clear hcr hclo
  go_wp2_with fail
  refine (need_eq 16 (by omega) _).mono ?_
  rintro e w' ⟨rfl, rfl⟩
  have hn16 : need 16 = 2 := by decide
  rw [hn16]
  have q00 := HX5.out.cellAt (i := 0) rfl
  have q01 := HX5.out.cellAt (i := 1) rfl
  go_wp2_with fail
  clear q00 q01
  have bz := (Below.refl w6.heap.size w6).alloc (Nat.le_refl _) (.cells #[.int .i64 2] 3)
  replace HP := Lib.hid (HP.out.kept bz)
  replace HB := Lib.hid (HB.out.trans (bz.mono HB.out.size))
  replace HR1 := Lib.hid (ex_below HR1.out bz)
  replace HR3 := Lib.hid (ex_below HR3.out bz)
  replace HX5 := Lib.hid (HX5.out.below HX5.out.lt bz)
  replace HCR := Lib.hid (HCR.out.below HCR.out.lt bz)
  have HN := Lib.hid (alloc_rowV w6 3 [.int .i64 2])
  obtain ⟨xn, hxn⟩ : ∃ x, x = w6.heap.size := ⟨_, rfl⟩
  rw [← hxn] at HN ⊢
  clear bz hxn
  generalize w6.alloc (.cells #[.int .i64 2] 3) = w7 at *
  refine (same_eq (has_told HR1.out) (has_told (l := [2]) (T := 3) ⟨[], HN.out⟩) rfl rfl (by decide) (by decide) true (by decide)).mono ?_
  rintro e w8 ⟨rfl, bz⟩
  replace HP := Lib.hid (HP.out.kept bz)
  replace HB := Lib.hid (HB.out.trans (bz.mono HB.out.size))
  replace HR1 := Lib.hid (ex_below HR1.out bz)
  replace HR3 := Lib.hid (ex_below HR3.out bz)
  replace HX5 := Lib.hid (HX5.out.below HX5.out.lt bz)
  replace HCR := Lib.hid (HCR.out.below HCR.out.lt bz)
  clear bz
  clear HN
  have q00 := HX5.out.cellAt (i := 0) rfl
  have q01 := HX5.out.cellAt (i := 1) rfl
  go_wp2_with fail
  clear q00 q01
  have bz := (Below.refl w8.heap.size w8).alloc (Nat.le_refl _) (.cells #[.int .i64 3] 3)
  replace HP := Lib.hid (HP.out.kept bz)
  replace HB := Lib.hid (HB.out.trans (bz.mono HB.out.size))
  replace HR1 := Lib.hid (ex_below HR1.out bz)
  replace HR3 := Lib.hid (ex_below HR3.out bz)
  replace HX5 := Lib.hid (HX5.out.below HX5.out.lt bz)
  replace HCR := Lib.hid (HCR.out.below HCR.out.lt bz)
  have HN := Lib.hid (alloc_rowV w8 3 [.int .i64 3])
  obtain ⟨xn, hxn⟩ : ∃ x, x = w8.heap.size := ⟨_, rfl⟩
  rw [← hxn] at HN ⊢
  clear bz hxn
  generalize w8.alloc (.cells #[.int .i64 3] 3) = w9 at *
  refine (same_eq (has_told HR3.out) (has_told (l := [3]) (T := 3) ⟨[], HN.out⟩) rfl rfl (by decide) (by decide) true (by decide)).mono ?_
  rintro e w10 ⟨rfl, bz⟩
  replace HP := Lib.hid (HP.out.kept bz)
  replace HB := Lib.hid (HB.out.trans (bz.mono HB.out.size))
  replace HR1 := Lib.hid (ex_below HR1.out bz)
  replace HR3 := Lib.hid (ex_below HR3.out bz)
  replace HX5 := Lib.hid (HX5.out.below HX5.out.lt bz)
  replace HCR := Lib.hid (HCR.out.below HCR.out.lt bz)
  clear bz
  clear HN
  have n1 := HCR.out.cellAt (show (nums (part aq2.s 0))[1]? = some (.int .u16 0) by rfl)
  have n2 := HCR.out.cellAt (show (nums (part aq2.s 0))[2]? = some (.int .u16 1) by rfl)
  have n3 := HCR.out.cellAt (show (nums (part aq2.s 0))[3]? = some (.int .u16 1) by rfl)
  go_wp2_with fail
  clear n1 n2 n3
  clear HCR
  refine (keep_at HP.out.tally).mono ?_
  rintro e w11 ⟨rfl, hat, hbt⟩
  dsimp only
  have bl := butL_of2 (p := p) hbt
  replace HB := Lib.hid (HB.out.trans (bl.below (by simp; exact ⟨HLO.out.2.1, HLO.out.2.2, HLP.out⟩) HB.out.size))
  replace HR1 := Lib.hid (turn_ex HP.out bl HR1.out (by decide))
  replace HR3 := Lib.hid (turn_ex HP.out bl HR3.out (by decide))
  replace HX5 := Lib.hid (turn_row HP.out bl HX5.out (by decide))
  replace HP := Lib.hid (show PAt w11 p ta cb mb 16 ak from HP.out.turned hat hbt rfl)
  clear hat hbt bl
  have q00 := HX5.out.cellAt (i := 0) rfl
  have q01 := HX5.out.cellAt (i := 1) rfl
  go_wp2_with fail
  clear q00 q01
  refine (place_eq HP.out (c1 := d1) (c2 := d3) (has_told HR1.out) (has_told HR3.out) aright2 aroom.2.1 (n := 1) (m := 1) rfl rfl arun2).mono ?_
  rintro e w12 ⟨t1, f1, t3, f3, v1, v2, rfl, hpat, hr1, hr3, hv1, hv2, hlo1, hlo3, hbut⟩
  obtain ⟨A3, k3, rfl, _⟩ := hv1
  obtain ⟨A4, k4, rfl, _⟩ := hv2
  have hd2 : (doneL (begin ak [2] [3]).f1).length = 0 := by decide
  have hd3 : (doneL (begin ak [2] [3]).f2).length = 0 := by decide
  rw [hd2, hd3]
  replace HB := Lib.hid (HB.out.trans (hbut.below (by simp; exact ⟨HLO.out.2.1, HLO.out.2.2, HLP.out⟩) HB.out.size))
  replace HR1 := Lib.hid (turn_ex HP.out hbut HR1.out (by decide))
  replace HR3 := Lib.hid (turn_ex HP.out hbut HR3.out (by decide))
  replace HX5 := Lib.hid (turn_row HP.out hbut HX5.out (by decide))
  replace HP := Lib.hid (show PAt w12 p ta cb mb 16 ak from hpat)
  have HS1 := Lib.hid (show ∃ sp, RowV w12 t1 3 (ints [2] ++ sp) from hr1)
  clear hpat hr1 hr3 hlo1 hlo3 hbut hd2 hd3
  go_upto_region 9 with (fail)
  have bz := (Below.refl w12.heap.size w12).alloc (Nat.le_refl _) (.cells #[.slice (some ⟨t1, 0, none⟩) 1 f1, .slice (some ⟨t3, 0, none⟩) 1 f3] 42)
  replace HP := Lib.hid (HP.out.kept bz)
  replace HB := Lib.hid (HB.out.trans (bz.mono HB.out.size))
  replace HR1 := Lib.hid (ex_below HR1.out bz)
  replace HR3 := Lib.hid (ex_below HR3.out bz)
  replace HX5 := Lib.hid (HX5.out.below HX5.out.lt bz)
  replace HS1 := Lib.hid (ex_below HS1.out bz)
  have HX10 := Lib.hid (alloc_rowV w12 42 [.slice (some ⟨t1, 0, none⟩) 1 f1, .slice (some ⟨t3, 0, none⟩) 1 f3])
  obtain ⟨x10, hx10⟩ : ∃ x, x = w12.heap.size := ⟨_, rfl⟩
  rw [← hx10] at HX10 ⊢
  clear bz hx10
  generalize w12.alloc (.cells #[.slice (some ⟨t1, 0, none⟩) 1 f1, .slice (some ⟨t3, 0, none⟩) 1 f3] 42) = w13 at *
  have q00 := HX5.out.cellAt (i := 0) rfl
  have q01 := HX5.out.cellAt (i := 1) rfl
  have q10 := HX10.out.cellAt (i := 0) rfl
  have q11 := HX10.out.cellAt (i := 1) rfl
  go_wp2_with fail
  clear q00 q01 q10 q11
  refine (same_eq (has_told HS1.out) (has_told HR1.out) rfl rfl (by decide) (by decide) true (by decide)).mono ?_
  rintro e w14 ⟨rfl, bz⟩
  replace HP := Lib.hid (HP.out.kept bz)
  replace HB := Lib.hid (HB.out.trans (bz.mono HB.out.size))
  replace HR1 := Lib.hid (ex_below HR1.out bz)
  replace HR3 := Lib.hid (ex_below HR3.out bz)
  replace HX5 := Lib.hid (HX5.out.below HX5.out.lt bz)
  replace HS1 := Lib.hid (ex_below HS1.out bz)
  replace HX10 := Lib.hid (HX10.out.below HX10.out.lt bz)
  clear bz
  clear HX10 HS1
  go_wp2_with fail
  refine (up_eq HP.out.tally 9 0 (s' := ak.s.put 9 (ak.s.cnt 9 + 1)) (up_ok (s := ak.s) (p := 9) (by decide) (by decide))).mono ?_
  rintro e w15 ⟨rfl, hat, hbt⟩
  have bl := butL_of2 (p := p) hbt
  replace HB := Lib.hid (HB.out.trans (bl.below (by simp; exact ⟨HLO.out.2.1, HLO.out.2.2, HLP.out⟩) HB.out.size))
  replace HR1 := Lib.hid (turn_ex HP.out bl HR1.out (by decide))
  replace HR3 := Lib.hid (turn_ex HP.out bl HR3.out (by decide))
  replace HX5 := Lib.hid (turn_row HP.out bl HX5.out (by decide))
  replace HP := Lib.hid (show PAt w15 p ta cb mb 16 au from HP.out.turned hat hbt (n_put _ _ _))
  clear hat hbt bl
  have q00 := HX5.out.cellAt (i := 0) rfl
  have q01 := HX5.out.cellAt (i := 1) rfl
  go_wp2_with fail
  clear q00 q01
  refine (place_eq HP.out (c1 := d1) (c2 := d3) (has_told HR1.out) (has_told HR3.out) aright3 aroom.2.2 (n := 1) (m := 1) rfl rfl arun3).mono ?_
  rintro e w16 ⟨u1, h1, u3, h3, v1, v2, rfl, hpat, hr1, hr3, hv1, hv2, hlo1, hlo3, hbut⟩
  obtain ⟨A5, k5, rfl, _⟩ := hv1
  obtain ⟨A6, k6, rfl, _⟩ := hv2
  rw [hd]
  clear HX5 HR1 HR3
  replace HB := Lib.hid (HB.out.trans (hbut.below (by simp; exact ⟨HLO.out.2.1, HLO.out.2.2, HLP.out⟩) HB.out.size))
  replace HP := Lib.hid (show PAt w16 p ta cb mb 16 av2 from hpat)
  have HU1 := Lib.hid (show ∃ sp, RowV w16 u1 3 (ints [4] ++ sp) from hr1)
  have HU3 := Lib.hid (show ∃ sp, RowV w16 u3 3 (ints [5] ++ sp) from hr3)
  clear hpat hr1 hr3 hlo1 hlo3 hbut
  go_upto_region 13 with (fail)
  have bz := (Below.refl w16.heap.size w16).alloc (Nat.le_refl _) (.cells #[.slice (some ⟨u1, 0, none⟩) 1 h1, .slice (some ⟨u3, 0, none⟩) 1 h3] 42)
  replace HP := Lib.hid (HP.out.kept bz)
  replace HB := Lib.hid (HB.out.trans (bz.mono HB.out.size))
  replace HU1 := Lib.hid (ex_below HU1.out bz)
  replace HU3 := Lib.hid (ex_below HU3.out bz)
  have HX5 := Lib.hid (alloc_rowV w16 42 [.slice (some ⟨u1, 0, none⟩) 1 h1, .slice (some ⟨u3, 0, none⟩) 1 h3])
  obtain ⟨x11, hx11⟩ : ∃ x, x = w16.heap.size := ⟨_, rfl⟩
  rw [← hx11] at HX5 ⊢
  clear bz hx11
  generalize w16.alloc (.cells #[.slice (some ⟨u1, 0, none⟩) 1 h1, .slice (some ⟨u3, 0, none⟩) 1 h3] 42) = w17 at *
  have q00 := HX5.out.cellAt (i := 0) rfl
  have q01 := HX5.out.cellAt (i := 1) rfl
  go_wp2_with fail
  clear q00 q01
  have bz := (Below.refl w17.heap.size w17).alloc (Nat.le_refl _) (.cells #[.int .i64 4] 3)
  replace HP := Lib.hid (HP.out.kept bz)
  replace HB := Lib.hid (HB.out.trans (bz.mono HB.out.size))
  replace HU1 := Lib.hid (ex_below HU1.out bz)
  replace HU3 := Lib.hid (ex_below HU3.out bz)
  replace HX5 := Lib.hid (HX5.out.below HX5.out.lt bz)
  have HN := Lib.hid (alloc_rowV w17 3 [.int .i64 4])
  obtain ⟨xn, hxn⟩ : ∃ x, x = w17.heap.size := ⟨_, rfl⟩
  rw [← hxn] at HN ⊢
  clear bz hxn
  generalize w17.alloc (.cells #[.int .i64 4] 3) = w18 at *
  refine (same_eq (has_told HU1.out) (has_told (l := [4]) (T := 3) ⟨[], HN.out⟩) rfl rfl (by decide) (by decide) true (by decide)).mono ?_
  rintro e w19 ⟨rfl, bz⟩
  replace HP := Lib.hid (HP.out.kept bz)
  replace HB := Lib.hid (HB.out.trans (bz.mono HB.out.size))
  replace HU1 := Lib.hid (ex_below HU1.out bz)
  replace HU3 := Lib.hid (ex_below HU3.out bz)
  replace HX5 := Lib.hid (HX5.out.below HX5.out.lt bz)
  clear bz
  clear HN
  have q00 := HX5.out.cellAt (i := 0) rfl
  have q01 := HX5.out.cellAt (i := 1) rfl
  go_wp2_with fail
  clear q00 q01
  have bz := (Below.refl w19.heap.size w19).alloc (Nat.le_refl _) (.cells #[.int .i64 5] 3)
  replace HP := Lib.hid (HP.out.kept bz)
  replace HB := Lib.hid (HB.out.trans (bz.mono HB.out.size))
  replace HU1 := Lib.hid (ex_below HU1.out bz)
  replace HU3 := Lib.hid (ex_below HU3.out bz)
  replace HX5 := Lib.hid (HX5.out.below HX5.out.lt bz)
  have HN := Lib.hid (alloc_rowV w19 3 [.int .i64 5])
  obtain ⟨xn, hxn⟩ : ∃ x, x = w19.heap.size := ⟨_, rfl⟩
  rw [← hxn] at HN ⊢
  clear bz hxn
  generalize w19.alloc (.cells #[.int .i64 5] 3) = w20 at *
  refine (same_eq (has_told HU3.out) (has_told (l := [5]) (T := 3) ⟨[], HN.out⟩) rfl rfl (by decide) (by decide) true (by decide)).mono ?_
  rintro e w21 ⟨rfl, bz⟩
  replace HP := Lib.hid (HP.out.kept bz)
  replace HB := Lib.hid (HB.out.trans (bz.mono HB.out.size))
  replace HU1 := Lib.hid (ex_below HU1.out bz)
  replace HU3 := Lib.hid (ex_below HU3.out bz)
  replace HX5 := Lib.hid (HX5.out.below HX5.out.lt bz)
  clear bz
  clear HN
  go_wp2_with fail
  refine (get_eq HP.out.tally 2 (by decide) 0 (by decide)).mono ?_
  rintro e w' ⟨rfl, rfl⟩
  go_wp2_with fail
  refine (get_eq HP.out.tally 3 (by decide) 0 (by decide)).mono ?_
  rintro e w' ⟨rfl, rfl⟩
  go_wp2_with fail
  go_ret
  exact ⟨rfl, HB.out⟩
end Go.Proofs.Ytlemjegngnfanaa.Pl
