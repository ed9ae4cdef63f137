/- A page gets a new block. (Written by bin/gen_plplace.py.) -/
import Derived.Test.YtlemjegngnfanaaPlN
import Derived.Test.YtlemjegngnfanaaInv2
namespace Go.Proofs.Ytlemjegngnfanaa.Pl
open Go.RowKit Go.Proofs.Ytlemjegngnfanaa.Oct Go.Proofs.Ytlemjegngnfanaa.Mv Go.Proofs.Ytlemjegngnfanaa.Tl Go.Proofs.Ytlemjegngnfanaa.Pk Go.Maps
set_option linter.unusedVariables false

theorem PAt.off {w : World} {p a cb mb c g : Nat} {q : Q} {T : TypeId} {vs : List Value} (h : PAt w p a cb mb c q) (k : RowV w g T vs) (h1 : T ≠ 85) (h2 : T ≠ 80) (h3 : T ≠ 22) : g ≠ p ∧ g ≠ a ∧ g ≠ cb ∧ g ≠ mb := by
  refine ⟨row_ne k h.row h1, row_ne k h.tally.row h2, ?_, ?_⟩
  · obtain ⟨sp, k2⟩ := h.tally.nums
    exact row_ne k k2 h3
  · obtain ⟨_, _, h4, _⟩ := h.tally.mp
    exact own_row h4 k
theorem set_ints (l : List Nat) (sp : List Value) (i b : Nat) (hi : i < l.length) : (ints l ++ sp).set i (.int .i64 (b : Int)) = ints (l.set i b) ++ sp := by
  rw [List.set_append_left _ _ (by rw [length_ints]; exact hi)]
  simp [ints, List.map_set]
theorem set_bools (f : List Bool) (sp : List Value) (i : Nat) (b : Bool) (hi : i < f.length) : (bools f ++ sp).set i (.bool b) = bools (f.set i b) ++ sp := by
  rw [List.set_append_left _ _ (by rw [length_bools]; exact hi)]
  simp [bools, List.map_set]
theorem setO {w : World} {p a cb mb c g : Nat} {q : Q} (h : PAt w p a cb mb c q) (hg : g ≠ p ∧ g ≠ a ∧ g ≠ cb ∧ g ≠ mb) (i : Nat) (v : Value) : PAt (w.setCell ⟨g, i, none⟩ v) p a cb mb c q :=
  h.blocks (heap_setCell_other _ _ _ _ (Ne.symm hg.1)) (heap_setCell_other _ _ _ _ (Ne.symm hg.2.1)) (heap_setCell_other _ _ _ _ (Ne.symm hg.2.2.1)) (heap_setCell_other _ _ _ _ (Ne.symm hg.2.2.2))
theorem found_any {q : Q} (hok : q.Ok) (h : 0 < q.room) : ∃ b, q.Found b := found_some hok h

set_option maxRecDepth 100000 in
set_option maxHeartbeats 4000000 in
theorem place_any {w : World} {W o ta cb mb c p g1 g2 c1 c2 B i : Nat} {l : List Nat} {f : List Bool} {q : Q} {vs : List Value} (hq : PAt w p ta cb mb c q) (hW : RowV w W 94 vs) (v0 : vs[0]? = some (.pointer (some ⟨ta, 0, none⟩))) (v1 : vs[1]? = some (.pointer (some ⟨p, 0, none⟩))) (vo : vs[o]? = some (.slice (some ⟨g1, 0, none⟩) l.length c1)) (vo1 : vs[o + 1]? = some (.slice (some ⟨g2, 0, none⟩) l.length c2)) (hP : PgAt w g1 g2 c1 c2 B l f) (hi : i < l.length) (hl : l.length ≤ 4096) (hm : May1 q (l.getD i 0)) (hr : 0 < q.room) :
    Calls Try.prog 59 #[.pointer (some ⟨W, 0, none⟩), .pointer (some ⟨W, o, none⟩), .int .i64 (i : Int)] w fun e w' => ∃ q' b, e = .returned (.tuple #[]) ∧ Moved q (l.getD i 0) q' b ∧ PAt w' p ta cb mb c q' ∧ PgAt w' g1 g2 c1 c2 B (l.set i b) (f.set i true) ∧ ButL w w' [cb, mb, p, g1, g2] := by
  have HQ := Lib.hid hq
  have HWR := Lib.hid hW
  have HP := Lib.hid hP
  have HM := Lib.hid hm
  have HOW := Lib.hid (PAt.off hq hW (by decide) (by decide) (by decide))
  have HO1 : Hid (g1 ≠ p ∧ g1 ≠ ta ∧ g1 ≠ cb ∧ g1 ≠ mb) := Lib.hid (by obtain ⟨sp, k⟩ := hP.at'; exact PAt.off hq k (by decide) (by decide) (by decide))
  have HO2 : Hid (g2 ≠ p ∧ g2 ≠ ta ∧ g2 ≠ cb ∧ g2 ≠ mb) := Lib.hid (by obtain ⟨sp, k⟩ := hP.pl; exact PAt.off hq k (by decide) (by decide) (by decide))
  have HOG : Hid (g1 ≠ g2 ∧ W ≠ g1 ∧ W ≠ g2) := Lib.hid ⟨hP.ne, (by obtain ⟨sp, k⟩ := hP.at'; exact row_ne hW k (by decide)), (by obtain ⟨sp, k⟩ := hP.pl; exact row_ne hW k (by decide))⟩
  have HLW := Lib.hid (And.intro hW.lt (And.intro hP.lt1 hP.lt2))
  have d0 := hW.cellAt v0
  have d1 := hW.cellAt v1
  have do0 := hW.cellAt vo
  have do1 := hW.cellAt vo1
  have HCV := Lib.hid (And.intro v0 (And.intro v1 (And.intro vo vo1)))
  have hii : (i : Int) < (l.length : Int) := by omega
  have hge : (0 : Int) ≤ (i : Int) := by omega
  have e1 : w.cell? ⟨g1, i, none⟩ = some (.int .i64 ((l.getD i 0 : Nat) : Int)) := by
    obtain ⟨sp, k⟩ := hP.at'
    exact row_int k hi
  have HI := Lib.hid (And.intro hi (show i < f.length by rw [hP.len]; exact hi))
  have hd := down1_room hm
  have hfound := found_any (down1_ok hq.ok hm) (by omega)
  obtain ⟨bk, hbk⟩ := hfound
  have HBK := Lib.hid hbk
  have HR := Lib.hid hr
  clear hq hW hP hm hr v0 v1 vo vo1 hd hbk
  obtain ⟨y, hy⟩ : ∃ y, y = l.getD i 0 := ⟨_, rfl⟩
  rw [← hy] at e1 HM HBK ⊢
  have HY := Lib.hid hy
  clear hy
  go_enter Try.func59, Try.ntmps59
  by_cases hy0 : y = 0
  · subst hy0
    go_upto_region 2 with (fail)
    have HQ1 := Lib.hid (show PAt w p ta cb mb c (down1 q 0) by rw [down1_zero]; exact HQ.out)
    have HW1 := HWR
    have HP1 := HP
    have HB1 := Lib.hid (ButL.refl w [cb, mb, p, g1, g2])
    have HF := HBK
    clear d0 d1 do0 do1
    refine Inv2.wp_region_inv (fun b a wy => ∃ z26 z27 z28 z29 z30 z31 z32 z33 z34 z35 z36 z37 z38 z39, a = ⟨(List.toArray (.pointer (some ⟨W, 0, none⟩) :: .pointer (some ⟨W, o, none⟩) :: .int .i64 (i : Int) :: undef :: undef :: undef :: .pointer (some ⟨W, o, none⟩) :: .pointer (some ⟨W, o, none⟩) :: .pointer (some ⟨W, o, none⟩) :: .slice (some ⟨g1, 0, none⟩) l.length c1 :: .int .i64 (i : Int) :: .pointer (some ⟨g1, i, none⟩) :: .int .i64 0 :: .bool false :: undef :: undef :: undef :: undef :: undef :: undef :: undef :: undef :: undef :: undef :: undef :: undef :: z26 :: z27 :: z28 :: z29 :: z30 :: z31 :: z32 :: z33 :: z34 :: z35 :: z36 :: z37 :: z38 :: z39 :: undef :: undef :: undef :: undef :: undef :: undef :: [])), []⟩ ∧ Hid ((b 0 = true → z27 = .pointer (some ⟨W, o, none⟩)) ∧ (b 1 = true → z28 = .pointer (some ⟨W, o, none⟩)) ∧ (b 2 = true → z29 = .pointer (some ⟨W, o, none⟩)) ∧ (b 3 = true → z30 = .slice (some ⟨g1, 0, none⟩) l.length c1) ∧ (b 4 = true → z31 = .int .i64 (i : Int)) ∧ (b 5 = true → z32 = .pointer (some ⟨W, 0, none⟩)) ∧ (b 6 = true → z33 = .pointer (some ⟨W, 0, none⟩)) ∧ (b 7 = true → z34 = .pointer (some ⟨W, 1, none⟩)) ∧ (b 8 = true → z35 = .pointer (some ⟨p, 0, none⟩)) ∧ (b 9 = true → z36 = .tuple #[.int .i64 (bk : Int), .int .i64 0]) ∧ (b 10 = true → z26 = .tuple #[.int .i64 (bk : Int), .int .i64 0]) ∧ (b 11 = true → z37 = .int .i64 (bk : Int)) ∧ (b 12 = true → z38 = .int .i64 0) ∧ (b 13 = true → z39 = .pointer (some ⟨g1, i, none⟩))) ∧ Hid (Below 0 w wy) ∧ Hid ((b 9 = false → PAt wy p ta cb mb c (down1 q 0)) ∧ (b 9 = true → PAt wy p ta cb mb c (Q.took (down1 q 0) bk)) ∧ RowV wy W 94 vs ∧ (b 14 = false → PgAt wy g1 g2 c1 c2 B l f) ∧ (b 14 = true → b 9 = true ∧ PgAt wy g1 g2 c1 c2 B (l.set i bk) f) ∧ ButL w wy [cb, mb, p, g1, g2])) (by kernel_rfl) (by kernel_rfl) ?startB1 ?stepsB1 ?doneB1
    case startB1 =>
      intro b hb
      refine ⟨undef, undef, undef, undef, undef, undef, undef, undef, undef, undef, undef, undef, undef, undef, rfl, Lib.hid ⟨?_, ?_, ?_, ?_, ?_, ?_, ?_, ?_, ?_, ?_, ?_, ?_, ?_, ?_⟩, Lib.hid ((show Still w w.drew from ⟨rfl, rfl, rfl, rfl⟩).below _), Lib.hid (⟨fun _ => HQ1.out.drewN 1, fun e => (by rw [hb _ (by decide)] at e; cases e), HW1.out, fun _ => HP1.out.blocks rfl rfl, fun e => (by rw [hb _ (by decide)] at e; cases e), HB1.out.trans (ButL.still _ ⟨rfl, rfl, rfl, rfl⟩)⟩)⟩
      all_goals (intro e; first | rfl | (rw [hb _ (by decide)] at e; cases e))
    case stepsB1 =>
      refine ⟨?_, ?_, ?_, ?_, ?_, ?_, ?_, ?_, ?_, ?_, ?_, ?_, ?_, ?_, ?_, trivial⟩
      · rintro b a wy hb hd ⟨z26, z27, z28, z29, z30, z31, z32, z33, z34, z35, z36, z37, z38, z39, rfl, HV, HW, HX⟩ K hK
        obtain ⟨h0, h1, h2, h3, h4, h5, h6, h7, h8, h9, h10, h11, h12, h13⟩ := HV.out
        clear hd
        go_simp
        exact hK _ _ ⟨_, _, _, _, _, _, _, _, _, _, _, _, _, _, rfl, Lib.hid ⟨fun _ => rfl, h1, h2, h3, h4, h5, h6, h7, h8, h9, h10, h11, h12, h13⟩, HW, HX⟩
      · rintro b a wy hb hd ⟨z26, z27, z28, z29, z30, z31, z32, z33, z34, z35, z36, z37, z38, z39, rfl, HV, HW, HX⟩ K hK
        obtain ⟨h0, h1, h2, h3, h4, h5, h6, h7, h8, h9, h10, h11, h12, h13⟩ := HV.out
        simp [Region.binds] at hd
        obtain rfl := h0 (by simp [hd])
        clear hd
        go_simp
        exact hK _ _ ⟨_, _, _, _, _, _, _, _, _, _, _, _, _, _, rfl, Lib.hid ⟨h0, fun _ => rfl, h2, h3, h4, h5, h6, h7, h8, h9, h10, h11, h12, h13⟩, HW, HX⟩
      · rintro b a wy hb hd ⟨z26, z27, z28, z29, z30, z31, z32, z33, z34, z35, z36, z37, z38, z39, rfl, HV, HW, HX⟩ K hK
        obtain ⟨h0, h1, h2, h3, h4, h5, h6, h7, h8, h9, h10, h11, h12, h13⟩ := HV.out
        simp [Region.binds] at hd
        obtain rfl := h1 (by simp [hd])
        clear hd
        go_simp
        exact hK _ _ ⟨_, _, _, _, _, _, _, _, _, _, _, _, _, _, rfl, Lib.hid ⟨h0, h1, fun _ => rfl, h3, h4, h5, h6, h7, h8, h9, h10, h11, h12, h13⟩, HW, HX⟩
      · rintro b a wy hb hd ⟨z26, z27, z28, z29, z30, z31, z32, z33, z34, z35, z36, z37, z38, z39, rfl, HV, HW, HX⟩ K hK
        obtain ⟨h0, h1, h2, h3, h4, h5, h6, h7, h8, h9, h10, h11, h12, h13⟩ := HV.out
        simp [Region.binds] at hd
        obtain rfl := h2 (by simp [hd])
        clear hd
        obtain ⟨x1, x2, x3, x4, x5, x6⟩ := HX.out
        have q0 := x3.cellAt HCV.out.2.2.1
        go_simp
        exact hK _ _ ⟨_, _, _, _, _, _, _, _, _, _, _, _, _, _, rfl, Lib.hid ⟨h0, h1, h2, fun _ => rfl, h4, h5, h6, h7, h8, h9, h10, h11, h12, h13⟩, HW, HX⟩
      · rintro b a wy hb hd ⟨z26, z27, z28, z29, z30, z31, z32, z33, z34, z35, z36, z37, z38, z39, rfl, HV, HW, HX⟩ K hK
        obtain ⟨h0, h1, h2, h3, h4, h5, h6, h7, h8, h9, h10, h11, h12, h13⟩ := HV.out
        clear hd
        go_simp
        exact hK _ _ ⟨_, _, _, _, _, _, _, _, _, _, _, _, _, _, rfl, Lib.hid ⟨h0, h1, h2, h3, fun _ => rfl, h5, h6, h7, h8, h9, h10, h11, h12, h13⟩, HW, HX⟩
      · rintro b a wy hb hd ⟨z26, z27, z28, z29, z30, z31, z32, z33, z34, z35, z36, z37, z38, z39, rfl, HV, HW, HX⟩ K hK
        obtain ⟨h0, h1, h2, h3, h4, h5, h6, h7, h8, h9, h10, h11, h12, h13⟩ := HV.out
        clear hd
        go_simp
        exact hK _ _ ⟨_, _, _, _, _, _, _, _, _, _, _, _, _, _, rfl, Lib.hid ⟨h0, h1, h2, h3, h4, fun _ => rfl, h6, h7, h8, h9, h10, h11, h12, h13⟩, HW, HX⟩
      · rintro b a wy hb hd ⟨z26, z27, z28, z29, z30, z31, z32, z33, z34, z35, z36, z37, z38, z39, rfl, HV, HW, HX⟩ K hK
        obtain ⟨h0, h1, h2, h3, h4, h5, h6, h7, h8, h9, h10, h11, h12, h13⟩ := HV.out
        simp [Region.binds] at hd
        obtain rfl := h5 (by simp [hd])
        clear hd
        go_simp
        exact hK _ _ ⟨_, _, _, _, _, _, _, _, _, _, _, _, _, _, rfl, Lib.hid ⟨h0, h1, h2, h3, h4, h5, fun _ => rfl, h7, h8, h9, h10, h11, h12, h13⟩, HW, HX⟩
      · rintro b a wy hb hd ⟨z26, z27, z28, z29, z30, z31, z32, z33, z34, z35, z36, z37, z38, z39, rfl, HV, HW, HX⟩ K hK
        obtain ⟨h0, h1, h2, h3, h4, h5, h6, h7, h8, h9, h10, h11, h12, h13⟩ := HV.out
        simp [Region.binds] at hd
        obtain rfl := h6 (by simp [hd])
        clear hd
        go_simp
        exact hK _ _ ⟨_, _, _, _, _, _, _, _, _, _, _, _, _, _, rfl, Lib.hid ⟨h0, h1, h2, h3, h4, h5, h6, fun _ => rfl, h8, h9, h10, h11, h12, h13⟩, HW, HX⟩
      · rintro b a wy hb hd ⟨z26, z27, z28, z29, z30, z31, z32, z33, z34, z35, z36, z37, z38, z39, rfl, HV, HW, HX⟩ K hK
        obtain ⟨h0, h1, h2, h3, h4, h5, h6, h7, h8, h9, h10, h11, h12, h13⟩ := HV.out
        simp [Region.binds] at hd
        obtain rfl := h7 (by simp [hd])
        clear hd
        obtain ⟨x1, x2, x3, x4, x5, x6⟩ := HX.out
        have q0 := x3.cellAt HCV.out.2.1
        go_simp
        exact hK _ _ ⟨_, _, _, _, _, _, _, _, _, _, _, _, _, _, rfl, Lib.hid ⟨h0, h1, h2, h3, h4, h5, h6, h7, fun _ => rfl, h9, h10, h11, h12, h13⟩, HW, HX⟩
      · rintro b a wy hb hd ⟨z26, z27, z28, z29, z30, z31, z32, z33, z34, z35, z36, z37, z38, z39, rfl, HV, HW, HX⟩ K hK
        obtain ⟨h0, h1, h2, h3, h4, h5, h6, h7, h8, h9, h10, h11, h12, h13⟩ := HV.out
        simp [Region.binds] at hd
        obtain rfl := h8 (by simp [hd])
        clear hd
        obtain ⟨x1, x2, x3, x4, x5, x6⟩ := HX.out
        have HA := Lib.hid (x1 hb)
        have HX3 := Lib.hid x3
        have HX4 := Lib.hid x4
        have HX5 := Lib.hid x5
        have HX6 := Lib.hid x6
        clear x1 x2 x3 x4 x5 x6
        go_simp
        go_at_call 15
        refine (take_found HA.out bk HF.out rfl).mono ?_
        rintro e wz ⟨rfl, az, bz⟩
        try go_simp
        have BL : ButL wy wz [cb, mb, p, g1, g2] := (ButL.of_but3 bz).mono (fun x hx => .inl (by simp at hx ⊢; rcases hx with h | h | h <;> simp [h]))
        exact hK _ _ ⟨_, _, _, _, _, _, _, _, _, _, _, _, _, _, rfl, Lib.hid ⟨h0, h1, h2, h3, h4, h5, h6, h7, h8, fun _ => rfl, h10, h11, h12, h13⟩, Lib.hid (HW.out.trans (bz.below (Nat.zero_le _) (Nat.zero_le _) (Nat.zero_le _) (Nat.zero_le _))), Lib.hid ⟨fun e => (by cases e), fun _ => az, HX3.out.block (bz.block W HX3.out.lt HOW.out.2.2.1 HOW.out.2.2.2 HOW.out.1), fun e => (HX4.out e).blocks (bz.block g1 (HX4.out e).lt1 HO1.out.2.2.1 HO1.out.2.2.2 HO1.out.1) (bz.block g2 (HX4.out e).lt2 HO2.out.2.2.1 HO2.out.2.2.2 HO2.out.1), fun e => absurd (HX5.out e).1 (by rw [hb]; decide), HX6.out.trans BL⟩⟩
      · rintro b a wy hb hd ⟨z26, z27, z28, z29, z30, z31, z32, z33, z34, z35, z36, z37, z38, z39, rfl, HV, HW, HX⟩ K hK
        obtain ⟨h0, h1, h2, h3, h4, h5, h6, h7, h8, h9, h10, h11, h12, h13⟩ := HV.out
        simp [Region.binds] at hd
        obtain rfl := h9 (by simp [hd])
        clear hd
        go_simp
        exact hK _ _ ⟨_, _, _, _, _, _, _, _, _, _, _, _, _, _, rfl, Lib.hid ⟨h0, h1, h2, h3, h4, h5, h6, h7, h8, h9, fun _ => rfl, h11, h12, h13⟩, HW, HX⟩
      · rintro b a wy hb hd ⟨z26, z27, z28, z29, z30, z31, z32, z33, z34, z35, z36, z37, z38, z39, rfl, HV, HW, HX⟩ K hK
        obtain ⟨h0, h1, h2, h3, h4, h5, h6, h7, h8, h9, h10, h11, h12, h13⟩ := HV.out
        simp [Region.binds] at hd
        obtain rfl := h10 (by simp [hd])
        clear hd
        go_simp
        exact hK _ _ ⟨_, _, _, _, _, _, _, _, _, _, _, _, _, _, rfl, Lib.hid ⟨h0, h1, h2, h3, h4, h5, h6, h7, h8, h9, h10, fun _ => rfl, h12, h13⟩, HW, HX⟩
      · rintro b a wy hb hd ⟨z26, z27, z28, z29, z30, z31, z32, z33, z34, z35, z36, z37, z38, z39, rfl, HV, HW, HX⟩ K hK
        obtain ⟨h0, h1, h2, h3, h4, h5, h6, h7, h8, h9, h10, h11, h12, h13⟩ := HV.out
        simp [Region.binds] at hd
        obtain rfl := h10 (by simp [hd])
        clear hd
        go_simp
        exact hK _ _ ⟨_, _, _, _, _, _, _, _, _, _, _, _, _, _, rfl, Lib.hid ⟨h0, h1, h2, h3, h4, h5, h6, h7, h8, h9, h10, h11, fun _ => rfl, h13⟩, HW, HX⟩
      · rintro b a wy hb hd ⟨z26, z27, z28, z29, z30, z31, z32, z33, z34, z35, z36, z37, z38, z39, rfl, HV, HW, HX⟩ K hK
        obtain ⟨h0, h1, h2, h3, h4, h5, h6, h7, h8, h9, h10, h11, h12, h13⟩ := HV.out
        simp [Region.binds] at hd
        obtain rfl := h3 (by simp [hd])
        obtain rfl := h4 (by simp [hd])
        clear hd
        go_simp
        exact hK _ _ ⟨_, _, _, _, _, _, _, _, _, _, _, _, _, _, rfl, Lib.hid ⟨h0, h1, h2, h3, h4, h5, h6, h7, h8, h9, h10, h11, h12, fun _ => rfl⟩, HW, HX⟩
      · rintro b a wy hb hd ⟨z26, z27, z28, z29, z30, z31, z32, z33, z34, z35, z36, z37, z38, z39, rfl, HV, HW, HX⟩ K hK
        obtain ⟨h0, h1, h2, h3, h4, h5, h6, h7, h8, h9, h10, h11, h12, h13⟩ := HV.out
        simp [Region.binds] at hd
        obtain rfl := h13 (by simp [hd])
        obtain rfl := h11 (by simp [hd])
        have d9h : b 9 = true := by simp [hd]
        obtain rfl := h9 d9h
        clear hd
        have D9 : b 9 = true := d9h
        obtain ⟨x1, x2, x3, x4, x5, x6⟩ := HX.out
        obtain ⟨sp, hsp⟩ := (x4 hb).at'
        have HPL := Lib.hid (x4 hb)
        have fz := hsp.free i
        have HA := Lib.hid (x2 (D9))
        have HX3 := Lib.hid x3
        have HX6 := Lib.hid x6
        have HS := Lib.hid (show RowV (wy.setCell ⟨g1, i, none⟩ (.int .i64 (bk : Int))) g1 3 (ints (l.set i bk) ++ sp) by rw [← set_ints l sp i bk HI.out.1]; exact hsp.set i _)
        have qc := row_int hsp HI.out.1
        have hd9 := Lib.hid D9
        clear x1 x2 x3 x4 x5 x6 hsp D9
        go_simp
        exact hK _ _ ⟨_, _, _, _, _, _, _, _, _, _, _, _, _, _, rfl, Lib.hid ⟨h0, h1, h2, h3, h4, h5, h6, h7, h8, h9, h10, h11, h12, h13⟩, Lib.hid (HW.out.trans ((ButL.set wy g1 i (.int .i64 (bk : Int))).below (by simp) (Nat.zero_le _))), Lib.hid ⟨fun e => absurd ((show b 9 = false from e).symm.trans hd9.out) (by decide), fun _ => setO HA.out HO1.out i _, HX3.out.other HOG.out.2.1, fun e => (by cases e), fun _ => ⟨hd9.out, ⟨⟨sp, HS.out⟩, (by obtain ⟨sp2, k⟩ := HPL.out.pl; exact ⟨sp2, k.other (Ne.symm HOG.out.1)⟩), (by rw [List.length_set]; exact HPL.out.len), HPL.out.lo1, HPL.out.lo2⟩⟩, HX6.out.trans ((ButL.set wy g1 i (.int .i64 (bk : Int))).mono (fun x hx => .inl (by simp at hx ⊢; simp [hx])))⟩⟩
    case doneB1 =>
      rintro b a wy hb ⟨z26, z27, z28, z29, z30, z31, z32, z33, z34, z35, z36, z37, z38, z39, rfl, HV, HW, HX⟩
      obtain ⟨h0, h1, h2, h3, h4, h5, h6, h7, h8, h9, h10, h11, h12, h13⟩ := HV.out
      obtain rfl := h0 (hb 0)
      obtain rfl := h1 (hb 1)
      obtain rfl := h2 (hb 2)
      obtain rfl := h3 (hb 3)
      obtain rfl := h4 (hb 4)
      obtain rfl := h5 (hb 5)
      obtain rfl := h6 (hb 6)
      obtain rfl := h7 (hb 7)
      obtain rfl := h8 (hb 8)
      obtain rfl := h9 (hb 9)
      obtain rfl := h10 (hb 10)
      obtain rfl := h11 (hb 11)
      obtain rfl := h12 (hb 12)
      obtain rfl := h13 (hb 13)
      clear HV h0 h1 h2 h3 h4 h5 h6 h7 h8 h9 h10 h11 h12 h13
      obtain ⟨x1, x2, x3, x4, x5, x6⟩ := HX.out
      obtain ⟨_, x5⟩ := x5 (hb 14)
      have HQ2 := Lib.hid (x2 (hb 9))
      have HP2 := Lib.hid x5
      have HB2 := Lib.hid x6
      have d3 := x3.cellAt HCV.out.2.2.2
      obtain ⟨sp, hsp⟩ := x5.pl
      have fz := hsp.free i
      have qc := row_bool hsp HI.out.2
      have HS := Lib.hid (show RowV (wy.setCell ⟨g2, i, none⟩ (.bool true)) g2 4 (bools (f.set i true) ++ sp) by rw [← set_bools f sp i true HI.out.2]; exact hsp.set i _)
      clear x1 x2 x3 x4 x5 x6 hsp hb
      go_wp2_with fail
      go_end0
      refine ⟨_, bk, rfl, ⟨HBK.out, rfl⟩, setO HQ2.out HO2.out i _, ⟨(by obtain ⟨sp2, k⟩ := HP2.out.at'; exact ⟨sp2, k.other HOG.out.1⟩), ⟨sp, HS.out⟩, (by rw [List.length_set]; exact HP2.out.len), HP2.out.lo1, HP2.out.lo2⟩, HB2.out.trans ((ButL.set wy g2 i (.bool true)).mono (fun x hx => .inl (by simp at hx ⊢; simp [hx])))⟩
  · have hy0i : ¬ ((y : Int) = 0) := by omega
    have hy0b : ((y : Int) == 0) = false := by simpa using hy0i
    have hy0n : ((y : Int) != 0) = true := by simpa using hy0i
    go_upto_region 1 with (fail)
    clear d0 d1 do0 do1 e1
    refine Inv2.wp_region_inv (fun b a wy => ∃ z14 z15 z16 z17 z18 z19 z20 z21 z22 z23 z24 z25, a = ⟨(List.toArray (.pointer (some ⟨W, 0, none⟩) :: .pointer (some ⟨W, o, none⟩) :: .int .i64 (i : Int) :: undef :: undef :: undef :: .pointer (some ⟨W, o, none⟩) :: .pointer (some ⟨W, o, none⟩) :: .pointer (some ⟨W, o, none⟩) :: .slice (some ⟨g1, 0, none⟩) l.length c1 :: .int .i64 (i : Int) :: .pointer (some ⟨g1, i, none⟩) :: .int .i64 (y : Int) :: .bool true :: z14 :: z15 :: z16 :: z17 :: z18 :: z19 :: z20 :: z21 :: z22 :: z23 :: z24 :: z25 :: undef :: undef :: undef :: undef :: undef :: undef :: undef :: undef :: undef :: undef :: undef :: undef :: undef :: undef :: undef :: undef :: undef :: undef :: undef :: undef :: [])), []⟩ ∧ Hid ((b 0 = true → z14 = .pointer (some ⟨W, 0, none⟩)) ∧ (b 1 = true → z15 = .pointer (some ⟨W, 0, none⟩)) ∧ (b 2 = true → z16 = .pointer (some ⟨W, 0, none⟩)) ∧ (b 3 = true → z17 = .pointer (some ⟨ta, 0, none⟩)) ∧ (b 4 = true → z18 = .pointer (some ⟨W, o, none⟩)) ∧ (b 5 = true → z19 = .pointer (some ⟨W, o, none⟩)) ∧ (b 6 = true → z20 = .pointer (some ⟨W, o, none⟩)) ∧ (b 7 = true → z21 = .slice (some ⟨g1, 0, none⟩) l.length c1) ∧ (b 8 = true → z22 = .int .i64 (i : Int)) ∧ (b 9 = true → z23 = .pointer (some ⟨g1, i, none⟩)) ∧ (b 10 = true → z24 = .int .i64 (y : Int)) ∧ (b 11 = true → z25 = .int .i64 0)) ∧ Hid (Below 0 w wy) ∧ Hid ((b 11 = false → PAt wy p ta cb mb c q) ∧ (b 11 = true → PAt wy p ta cb mb c (down1 q y)) ∧ RowV wy W 94 vs ∧ PgAt wy g1 g2 c1 c2 B l f ∧ ButL w wy [cb, mb, p, g1, g2])) (by kernel_rfl) (by kernel_rfl) ?startA1 ?stepsA1 ?doneA1
    case startA1 =>
      intro b hb
      refine ⟨undef, undef, undef, undef, undef, undef, undef, undef, undef, undef, undef, undef, rfl, Lib.hid ⟨?_, ?_, ?_, ?_, ?_, ?_, ?_, ?_, ?_, ?_, ?_, ?_⟩, Lib.hid ((show Still w w.drew from ⟨rfl, rfl, rfl, rfl⟩).below _), Lib.hid (⟨fun _ => HQ.out.drewN 1, fun e => (by rw [hb _ (by decide)] at e; cases e), HWR.out, HP.out.blocks rfl rfl, ButL.still _ ⟨rfl, rfl, rfl, rfl⟩⟩)⟩
      all_goals (intro e; first | rfl | (rw [hb _ (by decide)] at e; cases e))
    case stepsA1 =>
      refine ⟨?_, ?_, ?_, ?_, ?_, ?_, ?_, ?_, ?_, ?_, ?_, ?_, trivial⟩
      · rintro b a wy hb hd ⟨z14, z15, z16, z17, z18, z19, z20, z21, z22, z23, z24, z25, rfl, HV, HW, HX⟩ K hK
        obtain ⟨h0, h1, h2, h3, h4, h5, h6, h7, h8, h9, h10, h11⟩ := HV.out
        clear hd
        go_simp
        exact hK _ _ ⟨_, _, _, _, _, _, _, _, _, _, _, _, rfl, Lib.hid ⟨fun _ => rfl, h1, h2, h3, h4, h5, h6, h7, h8, h9, h10, h11⟩, HW, HX⟩
      · rintro b a wy hb hd ⟨z14, z15, z16, z17, z18, z19, z20, z21, z22, z23, z24, z25, rfl, HV, HW, HX⟩ K hK
        obtain ⟨h0, h1, h2, h3, h4, h5, h6, h7, h8, h9, h10, h11⟩ := HV.out
        simp [Region.binds] at hd
        obtain rfl := h0 (by simp [hd])
        clear hd
        go_simp
        exact hK _ _ ⟨_, _, _, _, _, _, _, _, _, _, _, _, rfl, Lib.hid ⟨h0, fun _ => rfl, h2, h3, h4, h5, h6, h7, h8, h9, h10, h11⟩, HW, HX⟩
      · rintro b a wy hb hd ⟨z14, z15, z16, z17, z18, z19, z20, z21, z22, z23, z24, z25, rfl, HV, HW, HX⟩ K hK
        obtain ⟨h0, h1, h2, h3, h4, h5, h6, h7, h8, h9, h10, h11⟩ := HV.out
        simp [Region.binds] at hd
        obtain rfl := h1 (by simp [hd])
        clear hd
        go_simp
        exact hK _ _ ⟨_, _, _, _, _, _, _, _, _, _, _, _, rfl, Lib.hid ⟨h0, h1, fun _ => rfl, h3, h4, h5, h6, h7, h8, h9, h10, h11⟩, HW, HX⟩
      · rintro b a wy hb hd ⟨z14, z15, z16, z17, z18, z19, z20, z21, z22, z23, z24, z25, rfl, HV, HW, HX⟩ K hK
        obtain ⟨h0, h1, h2, h3, h4, h5, h6, h7, h8, h9, h10, h11⟩ := HV.out
        simp [Region.binds] at hd
        obtain rfl := h2 (by simp [hd])
        clear hd
        obtain ⟨x1, x2, x3, x4, x5⟩ := HX.out
        have q0 := x3.cellAt HCV.out.1
        go_simp
        exact hK _ _ ⟨_, _, _, _, _, _, _, _, _, _, _, _, rfl, Lib.hid ⟨h0, h1, h2, fun _ => rfl, h4, h5, h6, h7, h8, h9, h10, h11⟩, HW, HX⟩
      · rintro b a wy hb hd ⟨z14, z15, z16, z17, z18, z19, z20, z21, z22, z23, z24, z25, rfl, HV, HW, HX⟩ K hK
        obtain ⟨h0, h1, h2, h3, h4, h5, h6, h7, h8, h9, h10, h11⟩ := HV.out
        clear hd
        go_simp
        exact hK _ _ ⟨_, _, _, _, _, _, _, _, _, _, _, _, rfl, Lib.hid ⟨h0, h1, h2, h3, fun _ => rfl, h5, h6, h7, h8, h9, h10, h11⟩, HW, HX⟩
      · rintro b a wy hb hd ⟨z14, z15, z16, z17, z18, z19, z20, z21, z22, z23, z24, z25, rfl, HV, HW, HX⟩ K hK
        obtain ⟨h0, h1, h2, h3, h4, h5, h6, h7, h8, h9, h10, h11⟩ := HV.out
        simp [Region.binds] at hd
        obtain rfl := h4 (by simp [hd])
        clear hd
        go_simp
        exact hK _ _ ⟨_, _, _, _, _, _, _, _, _, _, _, _, rfl, Lib.hid ⟨h0, h1, h2, h3, h4, fun _ => rfl, h6, h7, h8, h9, h10, h11⟩, HW, HX⟩
      · rintro b a wy hb hd ⟨z14, z15, z16, z17, z18, z19, z20, z21, z22, z23, z24, z25, rfl, HV, HW, HX⟩ K hK
        obtain ⟨h0, h1, h2, h3, h4, h5, h6, h7, h8, h9, h10, h11⟩ := HV.out
        simp [Region.binds] at hd
        obtain rfl := h5 (by simp [hd])
        clear hd
        go_simp
        exact hK _ _ ⟨_, _, _, _, _, _, _, _, _, _, _, _, rfl, Lib.hid ⟨h0, h1, h2, h3, h4, h5, fun _ => rfl, h7, h8, h9, h10, h11⟩, HW, HX⟩
      · rintro b a wy hb hd ⟨z14, z15, z16, z17, z18, z19, z20, z21, z22, z23, z24, z25, rfl, HV, HW, HX⟩ K hK
        obtain ⟨h0, h1, h2, h3, h4, h5, h6, h7, h8, h9, h10, h11⟩ := HV.out
        simp [Region.binds] at hd
        obtain rfl := h6 (by simp [hd])
        clear hd
        obtain ⟨x1, x2, x3, x4, x5⟩ := HX.out
        have q0 := x3.cellAt HCV.out.2.2.1
        go_simp
        exact hK _ _ ⟨_, _, _, _, _, _, _, _, _, _, _, _, rfl, Lib.hid ⟨h0, h1, h2, h3, h4, h5, h6, fun _ => rfl, h8, h9, h10, h11⟩, HW, HX⟩
      · rintro b a wy hb hd ⟨z14, z15, z16, z17, z18, z19, z20, z21, z22, z23, z24, z25, rfl, HV, HW, HX⟩ K hK
        obtain ⟨h0, h1, h2, h3, h4, h5, h6, h7, h8, h9, h10, h11⟩ := HV.out
        clear hd
        go_simp
        exact hK _ _ ⟨_, _, _, _, _, _, _, _, _, _, _, _, rfl, Lib.hid ⟨h0, h1, h2, h3, h4, h5, h6, h7, fun _ => rfl, h9, h10, h11⟩, HW, HX⟩
      · rintro b a wy hb hd ⟨z14, z15, z16, z17, z18, z19, z20, z21, z22, z23, z24, z25, rfl, HV, HW, HX⟩ K hK
        obtain ⟨h0, h1, h2, h3, h4, h5, h6, h7, h8, h9, h10, h11⟩ := HV.out
        simp [Region.binds] at hd
        obtain rfl := h7 (by simp [hd])
        obtain rfl := h8 (by simp [hd])
        clear hd
        go_simp
        exact hK _ _ ⟨_, _, _, _, _, _, _, _, _, _, _, _, rfl, Lib.hid ⟨h0, h1, h2, h3, h4, h5, h6, h7, h8, fun _ => rfl, h10, h11⟩, HW, HX⟩
      · rintro b a wy hb hd ⟨z14, z15, z16, z17, z18, z19, z20, z21, z22, z23, z24, z25, rfl, HV, HW, HX⟩ K hK
        obtain ⟨h0, h1, h2, h3, h4, h5, h6, h7, h8, h9, h10, h11⟩ := HV.out
        simp [Region.binds] at hd
        obtain rfl := h9 (by simp [hd])
        clear hd
        obtain ⟨x1, x2, x3, x4, x5⟩ := HX.out
        have q0 : wy.cell? ⟨g1, i, none⟩ = some (.int .i64 (y : Int)) := by (obtain ⟨sp, k⟩ := x4.at'; rw [HY.out]; exact row_int k HI.out.1)
        go_simp
        exact hK _ _ ⟨_, _, _, _, _, _, _, _, _, _, _, _, rfl, Lib.hid ⟨h0, h1, h2, h3, h4, h5, h6, h7, h8, h9, fun _ => rfl, h11⟩, HW, HX⟩
      · rintro b a wy hb hd ⟨z14, z15, z16, z17, z18, z19, z20, z21, z22, z23, z24, z25, rfl, HV, HW, HX⟩ K hK
        obtain ⟨h0, h1, h2, h3, h4, h5, h6, h7, h8, h9, h10, h11⟩ := HV.out
        simp [Region.binds] at hd
        obtain rfl := h3 (by simp [hd])
        obtain rfl := h10 (by simp [hd])
        clear hd
        obtain ⟨x1, x2, x3, x4, x5⟩ := HX.out
        have HA := Lib.hid (x1 hb)
        have HX3 := Lib.hid x3
        have HX4 := Lib.hid x4
        have HX5 := Lib.hid x5
        clear x1 x2 x3 x4 x5
        go_simp
        go_at_call 19
        refine (down_eq HA.out.tally (y : Int) 0 (down_is (HM.out hy0).1 (HM.out hy0).2)).mono ?_
        rintro e wz ⟨rfl, az, bz⟩
        try go_simp
        have BL : ButL wy wz [cb, mb, p, g1, g2] := (ButL.of_but bz).mono (fun x hx => .inl (by simp at hx ⊢; rcases hx with h | h <;> simp [h]))
        have HT := HA.out.turned az bz (n_put _ _ _)
        exact hK _ _ ⟨_, _, _, _, _, _, _, _, _, _, _, _, rfl, Lib.hid ⟨h0, h1, h2, h3, h4, h5, h6, h7, h8, h9, h10, fun _ => rfl⟩, Lib.hid (HW.out.trans (bz.below (Nat.zero_le _) (Nat.zero_le _) (Nat.zero_le _))), Lib.hid ⟨fun e => (by cases e), fun _ => (by rw [down1_pos hy0 HM.out]; exact HT), HX3.out.block (bz.block W HX3.out.lt HOW.out.2.2.1 HOW.out.2.2.2), HX4.out.blocks (bz.block g1 HX4.out.lt1 HO1.out.2.2.1 HO1.out.2.2.2) (bz.block g2 HX4.out.lt2 HO2.out.2.2.1 HO2.out.2.2.2), HX5.out.trans BL⟩⟩
    case doneA1 =>
      rintro b a wy1 hb ⟨z14, z15, z16, z17, z18, z19, z20, z21, z22, z23, z24, z25, rfl, HV, HW, HX⟩
      obtain ⟨h0, h1, h2, h3, h4, h5, h6, h7, h8, h9, h10, h11⟩ := HV.out
      obtain rfl := h0 (hb 0)
      obtain rfl := h1 (hb 1)
      obtain rfl := h2 (hb 2)
      obtain rfl := h3 (hb 3)
      obtain rfl := h4 (hb 4)
      obtain rfl := h5 (hb 5)
      obtain rfl := h6 (hb 6)
      obtain rfl := h7 (hb 7)
      obtain rfl := h8 (hb 8)
      obtain rfl := h9 (hb 9)
      obtain rfl := h10 (hb 10)
      obtain rfl := h11 (hb 11)
      clear HV h0 h1 h2 h3 h4 h5 h6 h7 h8 h9 h10 h11
      obtain ⟨x1, x2, x3, x4, x5⟩ := HX.out
      have HQ1 := Lib.hid (x2 (hb 11))
      have HW1 := Lib.hid x3
      have HP1 := Lib.hid x4
      have HB1 := Lib.hid x5
      have HF := HBK
      clear x1 x2 x3 x4 x5 hb HX
      go_upto_region 2 with (fail)
      refine Inv2.wp_region_inv (fun b a wy => ∃ z26 z27 z28 z29 z30 z31 z32 z33 z34 z35 z36 z37 z38 z39, a = ⟨(List.toArray (.pointer (some ⟨W, 0, none⟩) :: .pointer (some ⟨W, o, none⟩) :: .int .i64 (i : Int) :: undef :: undef :: undef :: .pointer (some ⟨W, o, none⟩) :: .pointer (some ⟨W, o, none⟩) :: .pointer (some ⟨W, o, none⟩) :: .slice (some ⟨g1, 0, none⟩) l.length c1 :: .int .i64 (i : Int) :: .pointer (some ⟨g1, i, none⟩) :: .int .i64 (y : Int) :: .bool true :: .pointer (some ⟨W, 0, none⟩) :: .pointer (some ⟨W, 0, none⟩) :: .pointer (some ⟨W, 0, none⟩) :: .pointer (some ⟨ta, 0, none⟩) :: .pointer (some ⟨W, o, none⟩) :: .pointer (some ⟨W, o, none⟩) :: .pointer (some ⟨W, o, none⟩) :: .slice (some ⟨g1, 0, none⟩) l.length c1 :: .int .i64 (i : Int) :: .pointer (some ⟨g1, i, none⟩) :: .int .i64 (y : Int) :: .int .i64 0 :: z26 :: z27 :: z28 :: z29 :: z30 :: z31 :: z32 :: z33 :: z34 :: z35 :: z36 :: z37 :: z38 :: z39 :: undef :: undef :: undef :: undef :: undef :: undef :: [])), []⟩ ∧ Hid ((b 0 = true → z27 = .pointer (some ⟨W, o, none⟩)) ∧ (b 1 = true → z28 = .pointer (some ⟨W, o, none⟩)) ∧ (b 2 = true → z29 = .pointer (some ⟨W, o, none⟩)) ∧ (b 3 = true → z30 = .slice (some ⟨g1, 0, none⟩) l.length c1) ∧ (b 4 = true → z31 = .int .i64 (i : Int)) ∧ (b 5 = true → z32 = .pointer (some ⟨W, 0, none⟩)) ∧ (b 6 = true → z33 = .pointer (some ⟨W, 0, none⟩)) ∧ (b 7 = true → z34 = .pointer (some ⟨W, 1, none⟩)) ∧ (b 8 = true → z35 = .pointer (some ⟨p, 0, none⟩)) ∧ (b 9 = true → z36 = .tuple #[.int .i64 (bk : Int), .int .i64 0]) ∧ (b 10 = true → z26 = .tuple #[.int .i64 (bk : Int), .int .i64 0]) ∧ (b 11 = true → z37 = .int .i64 (bk : Int)) ∧ (b 12 = true → z38 = .int .i64 0) ∧ (b 13 = true → z39 = .pointer (some ⟨g1, i, none⟩))) ∧ Hid (Below 0 wy1 wy) ∧ Hid ((b 9 = false → PAt wy p ta cb mb c (down1 q y)) ∧ (b 9 = true → PAt wy p ta cb mb c (Q.took (down1 q y) bk)) ∧ RowV wy W 94 vs ∧ (b 14 = false → PgAt wy g1 g2 c1 c2 B l f) ∧ (b 14 = true → b 9 = true ∧ PgAt wy g1 g2 c1 c2 B (l.set i bk) f) ∧ ButL w wy [cb, mb, p, g1, g2])) (by kernel_rfl) (by kernel_rfl) ?startB2 ?stepsB2 ?doneB2
      case startB2 =>
        intro b hb
        refine ⟨undef, undef, undef, undef, undef, undef, undef, undef, undef, undef, undef, undef, undef, undef, rfl, Lib.hid ⟨?_, ?_, ?_, ?_, ?_, ?_, ?_, ?_, ?_, ?_, ?_, ?_, ?_, ?_⟩, Lib.hid ((show Still wy1 wy1.drew from ⟨rfl, rfl, rfl, rfl⟩).below _), Lib.hid (⟨fun _ => HQ1.out.drewN 1, fun e => (by rw [hb _ (by decide)] at e; cases e), HW1.out, fun _ => HP1.out.blocks rfl rfl, fun e => (by rw [hb _ (by decide)] at e; cases e), HB1.out.trans (ButL.still _ ⟨rfl, rfl, rfl, rfl⟩)⟩)⟩
        all_goals (intro e; first | rfl | (rw [hb _ (by decide)] at e; cases e))
      case stepsB2 =>
        refine ⟨?_, ?_, ?_, ?_, ?_, ?_, ?_, ?_, ?_, ?_, ?_, ?_, ?_, ?_, ?_, trivial⟩
        · rintro b a wy hb hd ⟨z26, z27, z28, z29, z30, z31, z32, z33, z34, z35, z36, z37, z38, z39, rfl, HV, HW, HX⟩ K hK
          obtain ⟨h0, h1, h2, h3, h4, h5, h6, h7, h8, h9, h10, h11, h12, h13⟩ := HV.out
          clear hd
          go_simp
          exact hK _ _ ⟨_, _, _, _, _, _, _, _, _, _, _, _, _, _, rfl, Lib.hid ⟨fun _ => rfl, h1, h2, h3, h4, h5, h6, h7, h8, h9, h10, h11, h12, h13⟩, HW, HX⟩
        · rintro b a wy hb hd ⟨z26, z27, z28, z29, z30, z31, z32, z33, z34, z35, z36, z37, z38, z39, rfl, HV, HW, HX⟩ K hK
          obtain ⟨h0, h1, h2, h3, h4, h5, h6, h7, h8, h9, h10, h11, h12, h13⟩ := HV.out
          simp [Region.binds] at hd
          obtain rfl := h0 (by simp [hd])
          clear hd
          go_simp
          exact hK _ _ ⟨_, _, _, _, _, _, _, _, _, _, _, _, _, _, rfl, Lib.hid ⟨h0, fun _ => rfl, h2, h3, h4, h5, h6, h7, h8, h9, h10, h11, h12, h13⟩, HW, HX⟩
        · rintro b a wy hb hd ⟨z26, z27, z28, z29, z30, z31, z32, z33, z34, z35, z36, z37, z38, z39, rfl, HV, HW, HX⟩ K hK
          obtain ⟨h0, h1, h2, h3, h4, h5, h6, h7, h8, h9, h10, h11, h12, h13⟩ := HV.out
          simp [Region.binds] at hd
          obtain rfl := h1 (by simp [hd])
          clear hd
          go_simp
          exact hK _ _ ⟨_, _, _, _, _, _, _, _, _, _, _, _, _, _, rfl, Lib.hid ⟨h0, h1, fun _ => rfl, h3, h4, h5, h6, h7, h8, h9, h10, h11, h12, h13⟩, HW, HX⟩
        · rintro b a wy hb hd ⟨z26, z27, z28, z29, z30, z31, z32, z33, z34, z35, z36, z37, z38, z39, rfl, HV, HW, HX⟩ K hK
          obtain ⟨h0, h1, h2, h3, h4, h5, h6, h7, h8, h9, h10, h11, h12, h13⟩ := HV.out
          simp [Region.binds] at hd
          obtain rfl := h2 (by simp [hd])
          clear hd
          obtain ⟨x1, x2, x3, x4, x5, x6⟩ := HX.out
          have q0 := x3.cellAt HCV.out.2.2.1
          go_simp
          exact hK _ _ ⟨_, _, _, _, _, _, _, _, _, _, _, _, _, _, rfl, Lib.hid ⟨h0, h1, h2, fun _ => rfl, h4, h5, h6, h7, h8, h9, h10, h11, h12, h13⟩, HW, HX⟩
        · rintro b a wy hb hd ⟨z26, z27, z28, z29, z30, z31, z32, z33, z34, z35, z36, z37, z38, z39, rfl, HV, HW, HX⟩ K hK
          obtain ⟨h0, h1, h2, h3, h4, h5, h6, h7, h8, h9, h10, h11, h12, h13⟩ := HV.out
          clear hd
          go_simp
          exact hK _ _ ⟨_, _, _, _, _, _, _, _, _, _, _, _, _, _, rfl, Lib.hid ⟨h0, h1, h2, h3, fun _ => rfl, h5, h6, h7, h8, h9, h10, h11, h12, h13⟩, HW, HX⟩
        · rintro b a wy hb hd ⟨z26, z27, z28, z29, z30, z31, z32, z33, z34, z35, z36, z37, z38, z39, rfl, HV, HW, HX⟩ K hK
          obtain ⟨h0, h1, h2, h3, h4, h5, h6, h7, h8, h9, h10, h11, h12, h13⟩ := HV.out
          clear hd
          go_simp
          exact hK _ _ ⟨_, _, _, _, _, _, _, _, _, _, _, _, _, _, rfl, Lib.hid ⟨h0, h1, h2, h3, h4, fun _ => rfl, h6, h7, h8, h9, h10, h11, h12, h13⟩, HW, HX⟩
        · rintro b a wy hb hd ⟨z26, z27, z28, z29, z30, z31, z32, z33, z34, z35, z36, z37, z38, z39, rfl, HV, HW, HX⟩ K hK
          obtain ⟨h0, h1, h2, h3, h4, h5, h6, h7, h8, h9, h10, h11, h12, h13⟩ := HV.out
          simp [Region.binds] at hd
          obtain rfl := h5 (by simp [hd])
          clear hd
          go_simp
          exact hK _ _ ⟨_, _, _, _, _, _, _, _, _, _, _, _, _, _, rfl, Lib.hid ⟨h0, h1, h2, h3, h4, h5, fun _ => rfl, h7, h8, h9, h10, h11, h12, h13⟩, HW, HX⟩
        · rintro b a wy hb hd ⟨z26, z27, z28, z29, z30, z31, z32, z33, z34, z35, z36, z37, z38, z39, rfl, HV, HW, HX⟩ K hK
          obtain ⟨h0, h1, h2, h3, h4, h5, h6, h7, h8, h9, h10, h11, h12, h13⟩ := HV.out
          simp [Region.binds] at hd
          obtain rfl := h6 (by simp [hd])
          clear hd
          go_simp
          exact hK _ _ ⟨_, _, _, _, _, _, _, _, _, _, _, _, _, _, rfl, Lib.hid ⟨h0, h1, h2, h3, h4, h5, h6, fun _ => rfl, h8, h9, h10, h11, h12, h13⟩, HW, HX⟩
        · rintro b a wy hb hd ⟨z26, z27, z28, z29, z30, z31, z32, z33, z34, z35, z36, z37, z38, z39, rfl, HV, HW, HX⟩ K hK
          obtain ⟨h0, h1, h2, h3, h4, h5, h6, h7, h8, h9, h10, h11, h12, h13⟩ := HV.out
          simp [Region.binds] at hd
          obtain rfl := h7 (by simp [hd])
          clear hd
          obtain ⟨x1, x2, x3, x4, x5, x6⟩ := HX.out
          have q0 := x3.cellAt HCV.out.2.1
          go_simp
          exact hK _ _ ⟨_, _, _, _, _, _, _, _, _, _, _, _, _, _, rfl, Lib.hid ⟨h0, h1, h2, h3, h4, h5, h6, h7, fun _ => rfl, h9, h10, h11, h12, h13⟩, HW, HX⟩
        · rintro b a wy hb hd ⟨z26, z27, z28, z29, z30, z31, z32, z33, z34, z35, z36, z37, z38, z39, rfl, HV, HW, HX⟩ K hK
          obtain ⟨h0, h1, h2, h3, h4, h5, h6, h7, h8, h9, h10, h11, h12, h13⟩ := HV.out
          simp [Region.binds] at hd
          obtain rfl := h8 (by simp [hd])
          clear hd
          obtain ⟨x1, x2, x3, x4, x5, x6⟩ := HX.out
          have HA := Lib.hid (x1 hb)
          have HX3 := Lib.hid x3
          have HX4 := Lib.hid x4
          have HX5 := Lib.hid x5
          have HX6 := Lib.hid x6
          clear x1 x2 x3 x4 x5 x6
          go_simp
          go_at_call 15
          refine (take_found HA.out bk HF.out rfl).mono ?_
          rintro e wz ⟨rfl, az, bz⟩
          try go_simp
          have BL : ButL wy wz [cb, mb, p, g1, g2] := (ButL.of_but3 bz).mono (fun x hx => .inl (by simp at hx ⊢; rcases hx with h | h | h <;> simp [h]))
          exact hK _ _ ⟨_, _, _, _, _, _, _, _, _, _, _, _, _, _, rfl, Lib.hid ⟨h0, h1, h2, h3, h4, h5, h6, h7, h8, fun _ => rfl, h10, h11, h12, h13⟩, Lib.hid (HW.out.trans (bz.below (Nat.zero_le _) (Nat.zero_le _) (Nat.zero_le _) (Nat.zero_le _))), Lib.hid ⟨fun e => (by cases e), fun _ => az, HX3.out.block (bz.block W HX3.out.lt HOW.out.2.2.1 HOW.out.2.2.2 HOW.out.1), fun e => (HX4.out e).blocks (bz.block g1 (HX4.out e).lt1 HO1.out.2.2.1 HO1.out.2.2.2 HO1.out.1) (bz.block g2 (HX4.out e).lt2 HO2.out.2.2.1 HO2.out.2.2.2 HO2.out.1), fun e => absurd (HX5.out e).1 (by rw [hb]; decide), HX6.out.trans BL⟩⟩
        · rintro b a wy hb hd ⟨z26, z27, z28, z29, z30, z31, z32, z33, z34, z35, z36, z37, z38, z39, rfl, HV, HW, HX⟩ K hK
          obtain ⟨h0, h1, h2, h3, h4, h5, h6, h7, h8, h9, h10, h11, h12, h13⟩ := HV.out
          simp [Region.binds] at hd
          obtain rfl := h9 (by simp [hd])
          clear hd
          go_simp
          exact hK _ _ ⟨_, _, _, _, _, _, _, _, _, _, _, _, _, _, rfl, Lib.hid ⟨h0, h1, h2, h3, h4, h5, h6, h7, h8, h9, fun _ => rfl, h11, h12, h13⟩, HW, HX⟩
        · rintro b a wy hb hd ⟨z26, z27, z28, z29, z30, z31, z32, z33, z34, z35, z36, z37, z38, z39, rfl, HV, HW, HX⟩ K hK
          obtain ⟨h0, h1, h2, h3, h4, h5, h6, h7, h8, h9, h10, h11, h12, h13⟩ := HV.out
          simp [Region.binds] at hd
          obtain rfl := h10 (by simp [hd])
          clear hd
          go_simp
          exact hK _ _ ⟨_, _, _, _, _, _, _, _, _, _, _, _, _, _, rfl, Lib.hid ⟨h0, h1, h2, h3, h4, h5, h6, h7, h8, h9, h10, fun _ => rfl, h12, h13⟩, HW, HX⟩
        · rintro b a wy hb hd ⟨z26, z27, z28, z29, z30, z31, z32, z33, z34, z35, z36, z37, z38, z39, rfl, HV, HW, HX⟩ K hK
          obtain ⟨h0, h1, h2, h3, h4, h5, h6, h7, h8, h9, h10, h11, h12, h13⟩ := HV.out
          simp [Region.binds] at hd
          obtain rfl := h10 (by simp [hd])
          clear hd
          go_simp
          exact hK _ _ ⟨_, _, _, _, _, _, _, _, _, _, _, _, _, _, rfl, Lib.hid ⟨h0, h1, h2, h3, h4, h5, h6, h7, h8, h9, h10, h11, fun _ => rfl, h13⟩, HW, HX⟩
        · rintro b a wy hb hd ⟨z26, z27, z28, z29, z30, z31, z32, z33, z34, z35, z36, z37, z38, z39, rfl, HV, HW, HX⟩ K hK
          obtain ⟨h0, h1, h2, h3, h4, h5, h6, h7, h8, h9, h10, h11, h12, h13⟩ := HV.out
          simp [Region.binds] at hd
          obtain rfl := h3 (by simp [hd])
          obtain rfl := h4 (by simp [hd])
          clear hd
          go_simp
          exact hK _ _ ⟨_, _, _, _, _, _, _, _, _, _, _, _, _, _, rfl, Lib.hid ⟨h0, h1, h2, h3, h4, h5, h6, h7, h8, h9, h10, h11, h12, fun _ => rfl⟩, HW, HX⟩
        · rintro b a wy hb hd ⟨z26, z27, z28, z29, z30, z31, z32, z33, z34, z35, z36, z37, z38, z39, rfl, HV, HW, HX⟩ K hK
          obtain ⟨h0, h1, h2, h3, h4, h5, h6, h7, h8, h9, h10, h11, h12, h13⟩ := HV.out
          simp [Region.binds] at hd
          obtain rfl := h13 (by simp [hd])
          obtain rfl := h11 (by simp [hd])
          have d9h : b 9 = true := by simp [hd]
          obtain rfl := h9 d9h
          clear hd
          have D9 : b 9 = true := d9h
          obtain ⟨x1, x2, x3, x4, x5, x6⟩ := HX.out
          obtain ⟨sp, hsp⟩ := (x4 hb).at'
          have HPL := Lib.hid (x4 hb)
          have fz := hsp.free i
          have HA := Lib.hid (x2 (D9))
          have HX3 := Lib.hid x3
          have HX6 := Lib.hid x6
          have HS := Lib.hid (show RowV (wy.setCell ⟨g1, i, none⟩ (.int .i64 (bk : Int))) g1 3 (ints (l.set i bk) ++ sp) by rw [← set_ints l sp i bk HI.out.1]; exact hsp.set i _)
          have qc := row_int hsp HI.out.1
          have hd9 := Lib.hid D9
          clear x1 x2 x3 x4 x5 x6 hsp D9
          go_simp
          exact hK _ _ ⟨_, _, _, _, _, _, _, _, _, _, _, _, _, _, rfl, Lib.hid ⟨h0, h1, h2, h3, h4, h5, h6, h7, h8, h9, h10, h11, h12, h13⟩, Lib.hid (HW.out.trans ((ButL.set wy g1 i (.int .i64 (bk : Int))).below (by simp) (Nat.zero_le _))), Lib.hid ⟨fun e => absurd ((show b 9 = false from e).symm.trans hd9.out) (by decide), fun _ => setO HA.out HO1.out i _, HX3.out.other HOG.out.2.1, fun e => (by cases e), fun _ => ⟨hd9.out, ⟨⟨sp, HS.out⟩, (by obtain ⟨sp2, k⟩ := HPL.out.pl; exact ⟨sp2, k.other (Ne.symm HOG.out.1)⟩), (by rw [List.length_set]; exact HPL.out.len), HPL.out.lo1, HPL.out.lo2⟩⟩, HX6.out.trans ((ButL.set wy g1 i (.int .i64 (bk : Int))).mono (fun x hx => .inl (by simp at hx ⊢; simp [hx])))⟩⟩
      case doneB2 =>
        rintro b a wy hb ⟨z26, z27, z28, z29, z30, z31, z32, z33, z34, z35, z36, z37, z38, z39, rfl, HV, HW, HX⟩
        obtain ⟨h0, h1, h2, h3, h4, h5, h6, h7, h8, h9, h10, h11, h12, h13⟩ := HV.out
        obtain rfl := h0 (hb 0)
        obtain rfl := h1 (hb 1)
        obtain rfl := h2 (hb 2)
        obtain rfl := h3 (hb 3)
        obtain rfl := h4 (hb 4)
        obtain rfl := h5 (hb 5)
        obtain rfl := h6 (hb 6)
        obtain rfl := h7 (hb 7)
        obtain rfl := h8 (hb 8)
        obtain rfl := h9 (hb 9)
        obtain rfl := h10 (hb 10)
        obtain rfl := h11 (hb 11)
        obtain rfl := h12 (hb 12)
        obtain rfl := h13 (hb 13)
        clear HV h0 h1 h2 h3 h4 h5 h6 h7 h8 h9 h10 h11 h12 h13
        obtain ⟨x1, x2, x3, x4, x5, x6⟩ := HX.out
        obtain ⟨_, x5⟩ := x5 (hb 14)
        have HQ2 := Lib.hid (x2 (hb 9))
        have HP2 := Lib.hid x5
        have HB2 := Lib.hid x6
        have d3 := x3.cellAt HCV.out.2.2.2
        obtain ⟨sp, hsp⟩ := x5.pl
        have fz := hsp.free i
        have qc := row_bool hsp HI.out.2
        have HS := Lib.hid (show RowV (wy.setCell ⟨g2, i, none⟩ (.bool true)) g2 4 (bools (f.set i true) ++ sp) by rw [← set_bools f sp i true HI.out.2]; exact hsp.set i _)
        clear x1 x2 x3 x4 x5 x6 hsp hb
        go_wp2_with fail
        go_end0
        refine ⟨_, bk, rfl, ⟨HBK.out, rfl⟩, setO HQ2.out HO2.out i _, ⟨(by obtain ⟨sp2, k⟩ := HP2.out.at'; exact ⟨sp2, k.other HOG.out.1⟩), ⟨sp, HS.out⟩, (by rw [List.length_set]; exact HP2.out.len), HP2.out.lo1, HP2.out.lo2⟩, HB2.out.trans ((ButL.set wy g2 i (.bool true)).mono (fun x hx => .inl (by simp at hx ⊢; simp [hx])))⟩
end Go.Proofs.Ytlemjegngnfanaa.Pl
