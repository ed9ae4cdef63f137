/- PlaceRoom: the walk. (Written by bin/gen_plroom.py.) -/
import Derived.Test.YtlemjegngnfanaaPlV
namespace Go.Proofs.Ytlemjegngnfanaa.Pl
open Go.RowKit Go.Proofs.Ytlemjegngnfanaa.Oct Go.Proofs.Ytlemjegngnfanaa.Mv Go.Proofs.Ytlemjegngnfanaa.Tl Go.Proofs.Ytlemjegngnfanaa.Pk Go.Maps
set_option linter.unusedVariables false

theorem u16_of {n : Int} (h : (Lit.int .u16 n).wf = true) : ∃ c : UInt16, n = (c.toNat : Int) := by
  have h2 : IntKind.u16.min ≤ n ∧ n ≤ IntKind.u16.max := by simpa [Lit.wf] using h
  have h0 : IntKind.u16.min = 0 := rfl
  have h1 : IntKind.u16.max = 65535 := rfl
  rw [h0, h1] at h2
  refine ⟨UInt16.ofNat n.toNat, ?_⟩
  simp only [UInt16.toNat_ofNat']
  omega
set_option maxRecDepth 100000 in
set_option maxHeartbeats 8000000 in
theorem room_walk (a0 a1 : Int) (w : World) (h0 : (Lit.int .u16 a0).wf = true) (h1 : (Lit.int .u8 a1).wf = true) :
    Calls Try.prog 6 #[.int .u16 a0, .int .u8 a1] w fun e w' => e = .returned (.bool true) ∧ Below w.heap.size w w' := by
  obtain ⟨x0, rfl⟩ := u16_of h0
  obtain ⟨x1, rfl⟩ := u8_of h1
  clear h0 h1
  have hx1 := u8_lt x1
  obtain ⟨k, hk⟩ : ∃ k : Nat, k = x1.toNat := ⟨_, rfl⟩
  rw [← hk] at hx1 ⊢
  clear hk
  have hsz := size_ok x0
  have hbg := begun_any x0 w
  obtain ⟨n, hn⟩ : ∃ n, n = size16 x0 := ⟨_, rfl⟩
  rw [← hn] at hbg hsz
  clear hn
  obtain ⟨hn1, hn2⟩ := hsz
  go_enter Try.func6, Try.ntmps6
  go_wp2_with fail
  refine hbg.mono ?_
  clear hbg
  rintro e w1 ⟨D, q, l1, l2, rfl, hstg, hs, hqn, hch, hlo, hb⟩
  have HS := Lib.hid hstg
  have HSO := Lib.hid hs
  have HN := Lib.hid hqn
  have HL := Lib.hid hlo
  have HB := Lib.hid hb
  have HBL := Lib.hid (show w.heap.size ≤ D.cb ∧ w.heap.size ≤ D.mb ∧ w.heap.size ≤ D.p from ⟨hlo _ (by simp [Sd.list]), hlo _ (by simp [Sd.list]), hlo _ (by simp [Sd.list])⟩)
  clear hstg hs hqn hch hlo hb
  go_wp2_with fail
  go_loopg [30] q.room (fun g s30 wr => ∃ q2 : Q, g = q2.room ∧ Hid (Sound q2 l1 l2) ∧ Hid (q2.s.n = n) ∧ Hid (Stg wr D q2 l1 l2) ∧ Hid (Below w.heap.size w wr))
  case atStart => exact ⟨q, rfl, HSO, HN, HS, HB⟩
  case round =>
    obtain ⟨q2, hg2, HSO2, HN2, HS2, HB2⟩ := hrel
    clear HSO HN HS HB
    have c1 := HS2.out.row.cellAt (i := 1) rfl
    go_wp2_with fail
    refine (room_at HS2.out.pat).mono ?_
    rintro e w' ⟨rfl, rfl⟩
    by_cases hgt : k < q2.room
    · have hgi : (k : Int) < (q2.room : Int) := by omega
      go_wp2_with fail
      refine (take_some HS2.out.pat (by omega)).mono ?_
      rintro e w3 ⟨b, rfl, hfb, hpt, hbt⟩
      have HST := Lib.hid (HS2.out.turned hpt hbt)
      have HB3 := Lib.hid (HB2.out.trans (hbt.below (B := w.heap.size) HBL.out.1 HBL.out.2.1 HBL.out.2.2 HB2.out.size))
      have HFB := Lib.hid hfb
      have hrt := room_took HSO2.out.ok hfb
      clear hpt hbt hfb c1
      go_wp2_with fail
      go_roundg (q2.took b).room
      case measure => omega
      case rel => exact ⟨q2.took b, rfl, Lib.hid (HSO2.out.took HFB.out), Lib.hid ((n_took _ _).trans HN2.out), HST, HB3⟩
    · have hgi : ¬ ((k : Int) < (q2.room : Int)) := by omega
      clear c1
      go_upto_region 8 with (fail)
      have c0 := HS2.out.row.cellAt (i := 0) rfl
      have c1 := HS2.out.row.cellAt (i := 1) rfl
      go_quiet (first
        | (go_at_call 31; exact Calls.quiet_of_same (calls_flip (room_at (HS2.out.pat.drewN _))))
        | (go_at_call 32; exact Calls.quiet_of_same (calls_flip (blocks_at (HS2.out.pat.tally.drewN _))))
        | (go_at_call 12; exact Calls.quiet_of_same (calls_flip (need_eq q2.s.n (by rw [HN2.out]; omega) _))))
      have HS := Lib.hid (HS2.out.kept ((show Still wr (wr.drewN nq) from ⟨rfl, rfl, rfl, rfl⟩).below _))
      have HB := Lib.hid (HB2.out.trans ((show Still wr (wr.drewN nq) from ⟨rfl, rfl, rfl, rfl⟩).below _))
      clear c0 c1 HS2 HB2
      generalize wr.drewN nq = w4 at *
      by_cases hlt : q2.room < need q2.s.n
      · have hlti : (q2.room : Int) < (need q2.s.n : Int) := by omega
        go_upto_region 9 with (fail)
        refine Inv2.wp_region_inv (fun b a wy => ∃ z11 z12 z13 z14 z51 z52 z53 z54 z55 z56 z57 z58 z59 z60 z61 z62 z63 z64 z65 z66 z67 z68, a = ⟨(List.toArray (.int .u16 (x0.toNat : Int) :: .int .u8 (k : Int) :: undef :: undef :: u4 :: .pointer (some ⟨D.X, 0, none⟩) :: .bool true :: u7 :: u8 :: .int .i64 (q2.room : Int) :: .int .i64 (need q2.s.n : Int) :: z11 :: z12 :: z13 :: z14 :: .tuple #[.pointer (some ⟨D.X, 0, none⟩), .bool true] :: .int .u16 (x0.toNat : Int) :: .tuple #[.pointer (some ⟨D.X, 0, none⟩), .bool true] :: .pointer (some ⟨D.X, 0, none⟩) :: .bool true :: .bool true :: .bool false :: .pointer (some ⟨D.X, 0, none⟩) :: .pointer (some ⟨D.X, 0, none⟩) :: .pointer (some ⟨D.X, 1, none⟩) :: .pointer (some ⟨D.p, 0, none⟩) :: .int .i64 (q2.room : Int) :: .int .u8 (k : Int) :: .int .i64 (k : Int) :: .bool false :: u30 :: u31 :: u32 :: u33 :: u34 :: u35 :: u36 :: u37 :: u38 :: u39 :: .pointer (some ⟨D.X, 0, none⟩) :: .pointer (some ⟨D.X, 0, none⟩) :: .pointer (some ⟨D.X, 1, none⟩) :: .pointer (some ⟨D.p, 0, none⟩) :: .int .i64 (q2.room : Int) :: .pointer (some ⟨D.X, 0, none⟩) :: .pointer (some ⟨D.X, 0, none⟩) :: .pointer (some ⟨D.X, 0, none⟩) :: .pointer (some ⟨D.ta, 0, none⟩) :: .int .i64 (q2.s.n : Int) :: .int .i64 (need q2.s.n : Int) :: z51 :: z52 :: z53 :: z54 :: z55 :: z56 :: z57 :: z58 :: z59 :: z60 :: z61 :: z62 :: z63 :: z64 :: z65 :: z66 :: z67 :: z68 :: undef :: undef :: undef :: undef :: undef :: undef :: undef :: undef :: undef :: undef :: undef :: undef :: undef :: undef :: undef :: undef :: undef :: undef :: undef :: undef :: undef :: undef :: undef :: undef :: undef :: undef :: undef :: undef :: undef :: undef :: undef :: [])), []⟩ ∧ Hid ((b 0 = true → z52 = .pointer (some ⟨D.X, 0, none⟩)) ∧ (b 1 = true → z53 = .pointer (some ⟨D.X, 0, none⟩)) ∧ (b 2 = true → z54 = .pointer (some ⟨D.X, 0, none⟩)) ∧ (b 3 = true → z55 = .pointer (some ⟨D.ta, 0, none⟩)) ∧ (b 4 = true → z56 = .pointer (some ⟨D.X, 0, none⟩)) ∧ (b 5 = true → z57 = .pointer (some ⟨D.X, 0, none⟩)) ∧ (b 6 = true → z58 = .pointer (some ⟨D.X, 1, none⟩)) ∧ (b 7 = true → z59 = .pointer (some ⟨D.p, 0, none⟩)) ∧ (b 8 = true → z60 = .pointer (some ⟨D.X, 0, none⟩)) ∧ (b 9 = true → z61 = .pointer (some ⟨D.X, 0, none⟩)) ∧ (b 10 = true → z62 = .pointer (some ⟨D.X, 2, none⟩)) ∧ (b 11 = true → z63 = .agg #[.slice (some ⟨D.g1, 0, none⟩) l1.length D.d1, .slice (some ⟨D.g3, 0, none⟩) l2.length D.d3]) ∧ (b 12 = true → z64 = .tuple #[.agg #[.slice none 0 0, .slice none 0 0], .slice none 0 0, .slice none 0 0, .int .i64 90]) ∧ (b 13 = true → z51 = .tuple #[.agg #[.slice none 0 0, .slice none 0 0], .slice none 0 0, .slice none 0 0, .int .i64 90]) ∧ (b 14 = true → z65 = .agg #[.slice none 0 0, .slice none 0 0]) ∧ (b 15 = true → z66 = .slice none 0 0) ∧ (b 16 = true → z67 = .slice none 0 0) ∧ (b 17 = true → z68 = .int .i64 90) ∧ (b 20 = true → z12 = .slice none 0 0) ∧ (b 21 = true → z13 = .slice none 0 0) ∧ (b 22 = true → z14 = .int .i64 90)) ∧ Hid (Below w.heap.size w wy) ∧ Hid ((b 18 = true → ∃ r, z11 = .pointer (some ⟨r, 0, none⟩) ∧ w.heap.size ≤ r ∧ RowV wy r 42 [.slice none 0 0, .slice none 0 0]) ∧ Stg wy D q2 l1 l2)) (by kernel_rfl) (by kernel_rfl) ?startE1 ?stepsE1 ?doneE1
        case startE1 =>
          intro b hb
          refine ⟨undef, undef, undef, undef, undef, undef, undef, undef, undef, undef, undef, undef, undef, undef, undef, undef, undef, undef, undef, undef, undef, undef, rfl, Lib.hid ⟨?_, ?_, ?_, ?_, ?_, ?_, ?_, ?_, ?_, ?_, ?_, ?_, ?_, ?_, ?_, ?_, ?_, ?_, ?_, ?_, ?_⟩, Lib.hid (HB.out.trans <| (show Still w4 w4.drew from ⟨rfl, rfl, rfl, rfl⟩).below _), Lib.hid (⟨(fun e => by rw [hb _ (by decide)] at e; cases e), HS.out.kept ((show Still w4 w4.drew from ⟨rfl, rfl, rfl, rfl⟩).below _)⟩)⟩
          all_goals (intro e; first | rfl | (rw [hb _ (by decide)] at e; cases e))
        case stepsE1 =>
          refine ⟨?_, ?_, ?_, ?_, ?_, ?_, ?_, ?_, ?_, ?_, ?_, ?_, ?_, ?_, ?_, ?_, ?_, ?_, ?_, ?_, ?_, ?_, ?_, trivial⟩
          · rintro b a wy hb hd ⟨z11, z12, z13, z14, z51, z52, z53, z54, z55, z56, z57, z58, z59, z60, z61, z62, z63, z64, z65, z66, z67, z68, rfl, HV, HW, HX⟩ K hK
            obtain ⟨h0, h1, h2, h3, h4, h5, h6, h7, h8, h9, h10, h11, h12, h13, h14, h15, h16, h17, h20, h21, h22⟩ := HV.out
            clear hd
            go_simp
            exact hK _ _ ⟨_, _, _, _, _, _, _, _, _, _, _, _, _, _, _, _, _, _, _, _, _, _, rfl, Lib.hid ⟨fun _ => rfl, h1, h2, h3, h4, h5, h6, h7, h8, h9, h10, h11, h12, h13, h14, h15, h16, h17, h20, h21, h22⟩, HW, HX⟩
          · rintro b a wy hb hd ⟨z11, z12, z13, z14, z51, z52, z53, z54, z55, z56, z57, z58, z59, z60, z61, z62, z63, z64, z65, z66, z67, z68, rfl, HV, HW, HX⟩ K hK
            obtain ⟨h0, h1, h2, h3, h4, h5, h6, h7, h8, h9, h10, h11, h12, h13, h14, h15, h16, h17, h20, h21, h22⟩ := HV.out
            simp [Region.binds] at hd
            obtain rfl := h0 (by simp [hd])
            clear hd
            go_simp
            exact hK _ _ ⟨_, _, _, _, _, _, _, _, _, _, _, _, _, _, _, _, _, _, _, _, _, _, rfl, Lib.hid ⟨h0, fun _ => rfl, h2, h3, h4, h5, h6, h7, h8, h9, h10, h11, h12, h13, h14, h15, h16, h17, h20, h21, h22⟩, HW, HX⟩
          · rintro b a wy hb hd ⟨z11, z12, z13, z14, z51, z52, z53, z54, z55, z56, z57, z58, z59, z60, z61, z62, z63, z64, z65, z66, z67, z68, rfl, HV, HW, HX⟩ K hK
            obtain ⟨h0, h1, h2, h3, h4, h5, h6, h7, h8, h9, h10, h11, h12, h13, h14, h15, h16, h17, h20, h21, h22⟩ := HV.out
            simp [Region.binds] at hd
            obtain rfl := h1 (by simp [hd])
            clear hd
            go_simp
            exact hK _ _ ⟨_, _, _, _, _, _, _, _, _, _, _, _, _, _, _, _, _, _, _, _, _, _, rfl, Lib.hid ⟨h0, h1, fun _ => rfl, h3, h4, h5, h6, h7, h8, h9, h10, h11, h12, h13, h14, h15, h16, h17, h20, h21, h22⟩, HW, HX⟩
          · rintro b a wy hb hd ⟨z11, z12, z13, z14, z51, z52, z53, z54, z55, z56, z57, z58, z59, z60, z61, z62, z63, z64, z65, z66, z67, z68, rfl, HV, HW, HX⟩ K hK
            obtain ⟨h0, h1, h2, h3, h4, h5, h6, h7, h8, h9, h10, h11, h12, h13, h14, h15, h16, h17, h20, h21, h22⟩ := HV.out
            simp [Region.binds] at hd
            obtain rfl := h2 (by simp [hd])
            clear hd
            obtain ⟨x1, x2⟩ := HX.out
            have c0 := x2.row.cellAt (i := 0) rfl
            go_simp
            exact hK _ _ ⟨_, _, _, _, _, _, _, _, _, _, _, _, _, _, _, _, _, _, _, _, _, _, rfl, Lib.hid ⟨h0, h1, h2, fun _ => rfl, h4, h5, h6, h7, h8, h9, h10, h11, h12, h13, h14, h15, h16, h17, h20, h21, h22⟩, HW, HX⟩
          · rintro b a wy hb hd ⟨z11, z12, z13, z14, z51, z52, z53, z54, z55, z56, z57, z58, z59, z60, z61, z62, z63, z64, z65, z66, z67, z68, rfl, HV, HW, HX⟩ K hK
            obtain ⟨h0, h1, h2, h3, h4, h5, h6, h7, h8, h9, h10, h11, h12, h13, h14, h15, h16, h17, h20, h21, h22⟩ := HV.out
            clear hd
            go_simp
            exact hK _ _ ⟨_, _, _, _, _, _, _, _, _, _, _, _, _, _, _, _, _, _, _, _, _, _, rfl, Lib.hid ⟨h0, h1, h2, h3, fun _ => rfl, h5, h6, h7, h8, h9, h10, h11, h12, h13, h14, h15, h16, h17, h20, h21, h22⟩, HW, HX⟩
          · rintro b a wy hb hd ⟨z11, z12, z13, z14, z51, z52, z53, z54, z55, z56, z57, z58, z59, z60, z61, z62, z63, z64, z65, z66, z67, z68, rfl, HV, HW, HX⟩ K hK
            obtain ⟨h0, h1, h2, h3, h4, h5, h6, h7, h8, h9, h10, h11, h12, h13, h14, h15, h16, h17, h20, h21, h22⟩ := HV.out
            simp [Region.binds] at hd
            obtain rfl := h4 (by simp [hd])
            clear hd
            go_simp
            exact hK _ _ ⟨_, _, _, _, _, _, _, _, _, _, _, _, _, _, _, _, _, _, _, _, _, _, rfl, Lib.hid ⟨h0, h1, h2, h3, h4, fun _ => rfl, h6, h7, h8, h9, h10, h11, h12, h13, h14, h15, h16, h17, h20, h21, h22⟩, HW, HX⟩
          · rintro b a wy hb hd ⟨z11, z12, z13, z14, z51, z52, z53, z54, z55, z56, z57, z58, z59, z60, z61, z62, z63, z64, z65, z66, z67, z68, rfl, HV, HW, HX⟩ K hK
            obtain ⟨h0, h1, h2, h3, h4, h5, h6, h7, h8, h9, h10, h11, h12, h13, h14, h15, h16, h17, h20, h21, h22⟩ := HV.out
            simp [Region.binds] at hd
            obtain rfl := h5 (by simp [hd])
            clear hd
            go_simp
            exact hK _ _ ⟨_, _, _, _, _, _, _, _, _, _, _, _, _, _, _, _, _, _, _, _, _, _, rfl, Lib.hid ⟨h0, h1, h2, h3, h4, h5, fun _ => rfl, h7, h8, h9, h10, h11, h12, h13, h14, h15, h16, h17, h20, h21, h22⟩, HW, HX⟩
          · rintro b a wy hb hd ⟨z11, z12, z13, z14, z51, z52, z53, z54, z55, z56, z57, z58, z59, z60, z61, z62, z63, z64, z65, z66, z67, z68, rfl, HV, HW, HX⟩ K hK
            obtain ⟨h0, h1, h2, h3, h4, h5, h6, h7, h8, h9, h10, h11, h12, h13, h14, h15, h16, h17, h20, h21, h22⟩ := HV.out
            simp [Region.binds] at hd
            obtain rfl := h6 (by simp [hd])
            clear hd
            obtain ⟨x1, x2⟩ := HX.out
            have c1 := x2.row.cellAt (i := 1) rfl
            go_simp
            exact hK _ _ ⟨_, _, _, _, _, _, _, _, _, _, _, _, _, _, _, _, _, _, _, _, _, _, rfl, Lib.hid ⟨h0, h1, h2, h3, h4, h5, h6, fun _ => rfl, h8, h9, h10, h11, h12, h13, h14, h15, h16, h17, h20, h21, h22⟩, HW, HX⟩
          · rintro b a wy hb hd ⟨z11, z12, z13, z14, z51, z52, z53, z54, z55, z56, z57, z58, z59, z60, z61, z62, z63, z64, z65, z66, z67, z68, rfl, HV, HW, HX⟩ K hK
            obtain ⟨h0, h1, h2, h3, h4, h5, h6, h7, h8, h9, h10, h11, h12, h13, h14, h15, h16, h17, h20, h21, h22⟩ := HV.out
            clear hd
            go_simp
            exact hK _ _ ⟨_, _, _, _, _, _, _, _, _, _, _, _, _, _, _, _, _, _, _, _, _, _, rfl, Lib.hid ⟨h0, h1, h2, h3, h4, h5, h6, h7, fun _ => rfl, h9, h10, h11, h12, h13, h14, h15, h16, h17, h20, h21, h22⟩, HW, HX⟩
          · rintro b a wy hb hd ⟨z11, z12, z13, z14, z51, z52, z53, z54, z55, z56, z57, z58, z59, z60, z61, z62, z63, z64, z65, z66, z67, z68, rfl, HV, HW, HX⟩ K hK
            obtain ⟨h0, h1, h2, h3, h4, h5, h6, h7, h8, h9, h10, h11, h12, h13, h14, h15, h16, h17, h20, h21, h22⟩ := HV.out
            simp [Region.binds] at hd
            obtain rfl := h8 (by simp [hd])
            clear hd
            go_simp
            exact hK _ _ ⟨_, _, _, _, _, _, _, _, _, _, _, _, _, _, _, _, _, _, _, _, _, _, rfl, Lib.hid ⟨h0, h1, h2, h3, h4, h5, h6, h7, h8, fun _ => rfl, h10, h11, h12, h13, h14, h15, h16, h17, h20, h21, h22⟩, HW, HX⟩
          · rintro b a wy hb hd ⟨z11, z12, z13, z14, z51, z52, z53, z54, z55, z56, z57, z58, z59, z60, z61, z62, z63, z64, z65, z66, z67, z68, rfl, HV, HW, HX⟩ K hK
            obtain ⟨h0, h1, h2, h3, h4, h5, h6, h7, h8, h9, h10, h11, h12, h13, h14, h15, h16, h17, h20, h21, h22⟩ := HV.out
            simp [Region.binds] at hd
            obtain rfl := h9 (by simp [hd])
            clear hd
            go_simp
            exact hK _ _ ⟨_, _, _, _, _, _, _, _, _, _, _, _, _, _, _, _, _, _, _, _, _, _, rfl, Lib.hid ⟨h0, h1, h2, h3, h4, h5, h6, h7, h8, h9, fun _ => rfl, h11, h12, h13, h14, h15, h16, h17, h20, h21, h22⟩, HW, HX⟩
          · rintro b a wy hb hd ⟨z11, z12, z13, z14, z51, z52, z53, z54, z55, z56, z57, z58, z59, z60, z61, z62, z63, z64, z65, z66, z67, z68, rfl, HV, HW, HX⟩ K hK
            obtain ⟨h0, h1, h2, h3, h4, h5, h6, h7, h8, h9, h10, h11, h12, h13, h14, h15, h16, h17, h20, h21, h22⟩ := HV.out
            simp [Region.binds] at hd
            obtain rfl := h10 (by simp [hd])
            clear hd
            obtain ⟨x1, x2⟩ := HX.out
            have c2 := x2.row.cellAt (i := 2) rfl
            have c3 := x2.row.cellAt (i := 3) rfl
            go_simp
            exact hK _ _ ⟨_, _, _, _, _, _, _, _, _, _, _, _, _, _, _, _, _, _, _, _, _, _, rfl, Lib.hid ⟨h0, h1, h2, h3, h4, h5, h6, h7, h8, h9, h10, fun _ => rfl, h12, h13, h14, h15, h16, h17, h20, h21, h22⟩, HW, HX⟩
          · rintro b a wy hb hd ⟨z11, z12, z13, z14, z51, z52, z53, z54, z55, z56, z57, z58, z59, z60, z61, z62, z63, z64, z65, z66, z67, z68, rfl, HV, HW, HX⟩ K hK
            obtain ⟨h0, h1, h2, h3, h4, h5, h6, h7, h8, h9, h10, h11, h12, h13, h14, h15, h16, h17, h20, h21, h22⟩ := HV.out
            simp [Region.binds] at hd
            obtain rfl := h3 (by simp [hd])
            obtain rfl := h7 (by simp [hd])
            obtain rfl := h11 (by simp [hd])
            clear hd
            obtain ⟨x1, x2⟩ := HX.out
            have HST := Lib.hid x2
            go_simp
            go_at_call 22
            refine (place_less HST.out.pat (has_told HST.out.r1) (has_told HST.out.r2) HSO2.out.right hlt).mono ?_
            rintro e wz ⟨rfl, kz⟩
            try go_simp
            exact hK _ _ ⟨_, _, _, _, _, _, _, _, _, _, _, _, _, _, _, _, _, _, _, _, _, _, rfl, Lib.hid ⟨h0, h1, h2, h3, h4, h5, h6, h7, h8, h9, h10, h11, fun _ => rfl, h13, h14, h15, h16, h17, h20, h21, h22⟩, Lib.hid (HW.out.trans (kz.mono HW.out.size)), Lib.hid ⟨fun e => (by obtain ⟨r, y1, y0, y2⟩ := x1 e; exact ⟨r, y1, y0, y2.below y2.lt kz⟩), x2.kept kz⟩⟩
          · rintro b a wy hb hd ⟨z11, z12, z13, z14, z51, z52, z53, z54, z55, z56, z57, z58, z59, z60, z61, z62, z63, z64, z65, z66, z67, z68, rfl, HV, HW, HX⟩ K hK
            obtain ⟨h0, h1, h2, h3, h4, h5, h6, h7, h8, h9, h10, h11, h12, h13, h14, h15, h16, h17, h20, h21, h22⟩ := HV.out
            simp [Region.binds] at hd
            obtain rfl := h12 (by simp [hd])
            clear hd
            go_simp
            exact hK _ _ ⟨_, _, _, _, _, _, _, _, _, _, _, _, _, _, _, _, _, _, _, _, _, _, rfl, Lib.hid ⟨h0, h1, h2, h3, h4, h5, h6, h7, h8, h9, h10, h11, h12, fun _ => rfl, h14, h15, h16, h17, h20, h21, h22⟩, HW, HX⟩
          · rintro b a wy hb hd ⟨z11, z12, z13, z14, z51, z52, z53, z54, z55, z56, z57, z58, z59, z60, z61, z62, z63, z64, z65, z66, z67, z68, rfl, HV, HW, HX⟩ K hK
            obtain ⟨h0, h1, h2, h3, h4, h5, h6, h7, h8, h9, h10, h11, h12, h13, h14, h15, h16, h17, h20, h21, h22⟩ := HV.out
            simp [Region.binds] at hd
            obtain rfl := h13 (by simp [hd])
            clear hd
            go_simp
            exact hK _ _ ⟨_, _, _, _, _, _, _, _, _, _, _, _, _, _, _, _, _, _, _, _, _, _, rfl, Lib.hid ⟨h0, h1, h2, h3, h4, h5, h6, h7, h8, h9, h10, h11, h12, h13, fun _ => rfl, h15, h16, h17, h20, h21, h22⟩, HW, HX⟩
          · rintro b a wy hb hd ⟨z11, z12, z13, z14, z51, z52, z53, z54, z55, z56, z57, z58, z59, z60, z61, z62, z63, z64, z65, z66, z67, z68, rfl, HV, HW, HX⟩ K hK
            obtain ⟨h0, h1, h2, h3, h4, h5, h6, h7, h8, h9, h10, h11, h12, h13, h14, h15, h16, h17, h20, h21, h22⟩ := HV.out
            simp [Region.binds] at hd
            obtain rfl := h13 (by simp [hd])
            clear hd
            go_simp
            exact hK _ _ ⟨_, _, _, _, _, _, _, _, _, _, _, _, _, _, _, _, _, _, _, _, _, _, rfl, Lib.hid ⟨h0, h1, h2, h3, h4, h5, h6, h7, h8, h9, h10, h11, h12, h13, h14, fun _ => rfl, h16, h17, h20, h21, h22⟩, HW, HX⟩
          · rintro b a wy hb hd ⟨z11, z12, z13, z14, z51, z52, z53, z54, z55, z56, z57, z58, z59, z60, z61, z62, z63, z64, z65, z66, z67, z68, rfl, HV, HW, HX⟩ K hK
            obtain ⟨h0, h1, h2, h3, h4, h5, h6, h7, h8, h9, h10, h11, h12, h13, h14, h15, h16, h17, h20, h21, h22⟩ := HV.out
            simp [Region.binds] at hd
            obtain rfl := h13 (by simp [hd])
            clear hd
            go_simp
            exact hK _ _ ⟨_, _, _, _, _, _, _, _, _, _, _, _, _, _, _, _, _, _, _, _, _, _, rfl, Lib.hid ⟨h0, h1, h2, h3, h4, h5, h6, h7, h8, h9, h10, h11, h12, h13, h14, h15, fun _ => rfl, h17, h20, h21, h22⟩, HW, HX⟩
          · rintro b a wy hb hd ⟨z11, z12, z13, z14, z51, z52, z53, z54, z55, z56, z57, z58, z59, z60, z61, z62, z63, z64, z65, z66, z67, z68, rfl, HV, HW, HX⟩ K hK
            obtain ⟨h0, h1, h2, h3, h4, h5, h6, h7, h8, h9, h10, h11, h12, h13, h14, h15, h16, h17, h20, h21, h22⟩ := HV.out
            simp [Region.binds] at hd
            obtain rfl := h13 (by simp [hd])
            clear hd
            go_simp
            exact hK _ _ ⟨_, _, _, _, _, _, _, _, _, _, _, _, _, _, _, _, _, _, _, _, _, _, rfl, Lib.hid ⟨h0, h1, h2, h3, h4, h5, h6, h7, h8, h9, h10, h11, h12, h13, h14, h15, h16, fun _ => rfl, h20, h21, h22⟩, HW, HX⟩
          · rintro b a wy hb hd ⟨z11, z12, z13, z14, z51, z52, z53, z54, z55, z56, z57, z58, z59, z60, z61, z62, z63, z64, z65, z66, z67, z68, rfl, HV, HW, HX⟩ K hK
            obtain ⟨h0, h1, h2, h3, h4, h5, h6, h7, h8, h9, h10, h11, h12, h13, h14, h15, h16, h17, h20, h21, h22⟩ := HV.out
            clear hd
            obtain ⟨x1, x2⟩ := HX.out
            have hz := sheet_zero wy
            go_simp
            have B2 := (Below.refl wy.heap.size wy).alloc (Nat.le_refl _) (.cells #[.slice none 0 0, .slice none 0 0] 42)
            have R2 := alloc_rowV wy 42 [.slice none 0 0, .slice none 0 0]
            exact hK _ _ ⟨_, _, _, _, _, _, _, _, _, _, _, _, _, _, _, _, _, _, _, _, _, _, rfl, Lib.hid ⟨h0, h1, h2, h3, h4, h5, h6, h7, h8, h9, h10, h11, h12, h13, h14, h15, h16, h17, h20, h21, h22⟩, Lib.hid (HW.out.trans (B2.mono HW.out.size)), Lib.hid ⟨fun _ => ⟨wy.heap.size, rfl, HW.out.size, R2⟩, x2.kept B2⟩⟩
          · rintro b a wy hb hd ⟨z11, z12, z13, z14, z51, z52, z53, z54, z55, z56, z57, z58, z59, z60, z61, z62, z63, z64, z65, z66, z67, z68, rfl, HV, HW, HX⟩ K hK
            obtain ⟨h0, h1, h2, h3, h4, h5, h6, h7, h8, h9, h10, h11, h12, h13, h14, h15, h16, h17, h20, h21, h22⟩ := HV.out
            simp [Region.binds] at hd
            have dd18 : b 18 = true := by simp [hd]
            obtain rfl := h14 (by simp [hd])
            clear hd
            obtain ⟨x1, x2⟩ := HX.out
            obtain ⟨r, rfl, hlo, hr⟩ := x1 dd18
            have q0 := hr.cellAt (i := 0) rfl
            have q1 := hr.cellAt (i := 1) rfl
            have fz0 := hr.free 0
            have fz1 := hr.free 1
            have HU := Lib.hid ((ButL.set wy r 0 (.slice none 0 0)).trans (ButL.set _ r 1 (.slice none 0 0)))
            have HZS := Lib.hid (zero_sheet_set hr)
            have HSB := Lib.hid (x2.box hr HU.out)
            have HLO9 := Lib.hid hlo
            clear x1 x2 hlo hr HX
            go_simp
            exact hK _ _ ⟨_, _, _, _, _, _, _, _, _, _, _, _, _, _, _, _, _, _, _, _, _, _, rfl, Lib.hid ⟨h0, h1, h2, h3, h4, h5, h6, h7, h8, h9, h10, h11, h12, h13, h14, h15, h16, h17, h20, h21, h22⟩, Lib.hid (HW.out.trans (HU.out.below (by simp; exact HLO9.out) HW.out.size)), Lib.hid ⟨fun _ => ⟨r, rfl, HLO9.out, HZS.out⟩, HSB.out⟩⟩
          · rintro b a wy hb hd ⟨z11, z12, z13, z14, z51, z52, z53, z54, z55, z56, z57, z58, z59, z60, z61, z62, z63, z64, z65, z66, z67, z68, rfl, HV, HW, HX⟩ K hK
            obtain ⟨h0, h1, h2, h3, h4, h5, h6, h7, h8, h9, h10, h11, h12, h13, h14, h15, h16, h17, h20, h21, h22⟩ := HV.out
            simp [Region.binds] at hd
            obtain rfl := h15 (by simp [hd])
            clear hd
            go_simp
            exact hK _ _ ⟨_, _, _, _, _, _, _, _, _, _, _, _, _, _, _, _, _, _, _, _, _, _, rfl, Lib.hid ⟨h0, h1, h2, h3, h4, h5, h6, h7, h8, h9, h10, h11, h12, h13, h14, h15, h16, h17, fun _ => rfl, h21, h22⟩, HW, HX⟩
          · rintro b a wy hb hd ⟨z11, z12, z13, z14, z51, z52, z53, z54, z55, z56, z57, z58, z59, z60, z61, z62, z63, z64, z65, z66, z67, z68, rfl, HV, HW, HX⟩ K hK
            obtain ⟨h0, h1, h2, h3, h4, h5, h6, h7, h8, h9, h10, h11, h12, h13, h14, h15, h16, h17, h20, h21, h22⟩ := HV.out
            simp [Region.binds] at hd
            obtain rfl := h16 (by simp [hd])
            clear hd
            go_simp
            exact hK _ _ ⟨_, _, _, _, _, _, _, _, _, _, _, _, _, _, _, _, _, _, _, _, _, _, rfl, Lib.hid ⟨h0, h1, h2, h3, h4, h5, h6, h7, h8, h9, h10, h11, h12, h13, h14, h15, h16, h17, h20, fun _ => rfl, h22⟩, HW, HX⟩
          · rintro b a wy hb hd ⟨z11, z12, z13, z14, z51, z52, z53, z54, z55, z56, z57, z58, z59, z60, z61, z62, z63, z64, z65, z66, z67, z68, rfl, HV, HW, HX⟩ K hK
            obtain ⟨h0, h1, h2, h3, h4, h5, h6, h7, h8, h9, h10, h11, h12, h13, h14, h15, h16, h17, h20, h21, h22⟩ := HV.out
            simp [Region.binds] at hd
            obtain rfl := h17 (by simp [hd])
            clear hd
            go_simp
            exact hK _ _ ⟨_, _, _, _, _, _, _, _, _, _, _, _, _, _, _, _, _, _, _, _, _, _, rfl, Lib.hid ⟨h0, h1, h2, h3, h4, h5, h6, h7, h8, h9, h10, h11, h12, h13, h14, h15, h16, h17, h20, h21, fun _ => rfl⟩, HW, HX⟩
        case doneE1 =>
          rintro b a wy hb ⟨z11, z12, z13, z14, z51, z52, z53, z54, z55, z56, z57, z58, z59, z60, z61, z62, z63, z64, z65, z66, z67, z68, rfl, HV, HW, HX⟩
          obtain ⟨h0, h1, h2, h3, h4, h5, h6, h7, h8, h9, h10, h11, h12, h13, h14, h15, h16, h17, h20, h21, h22⟩ := HV.out
          obtain rfl := h0 (hb 0)
          obtain rfl := h1 (hb 1)
          obtain rfl := h2 (hb 2)
          obtain rfl := h3 (hb 3)
          obtain rfl := h4 (hb 4)
          obtain rfl := h5 (hb 5)
          obtain rfl := h6 (hb 6)
          obtain rfl := h7 (hb 7)
          obtain rfl := h8 (hb 8)
          obtain rfl := h9 (hb 9)
          obtain rfl := h10 (hb 10)
          obtain rfl := h11 (hb 11)
          obtain rfl := h12 (hb 12)
          obtain rfl := h13 (hb 13)
          obtain rfl := h14 (hb 14)
          obtain rfl := h15 (hb 15)
          obtain rfl := h16 (hb 16)
          obtain rfl := h17 (hb 17)
          obtain rfl := h20 (hb 20)
          obtain rfl := h21 (hb 21)
          obtain rfl := h22 (hb 22)
          clear HV h0 h1 h2 h3 h4 h5 h6 h7 h8 h9 h10 h11 h12 h13 h14 h15 h16 h17 h20 h21 h22
          obtain ⟨x1, x2⟩ := HX.out
          obtain ⟨r, rfl, _, hr⟩ := x1 (hb 18)
          have HST := Lib.hid x2
          have HBX := Lib.hid hr
          clear x1 x2 hr hb HX
          have c1 := HST.out.row.cellAt (i := 1) rfl
          go_wp2_with fail
          refine (room_at HST.out.pat).mono ?_
          rintro e w' ⟨rfl, rfl⟩
          go_wp2_with fail
          refine (awake_any _).mono ?_
          rintro e w6 ⟨rfl, bz⟩
          have HB6 := Lib.hid (HW.out.trans (bz.mono HW.out.size))
          clear c1 bz
          go_wp2_with fail
          go_ret
          exact ⟨rfl, HB6.out⟩
      · have hlti : ¬ ((q2.room : Int) < (need q2.s.n : Int)) := by omega
        go_upto_region 9 with (fail)
        refine Inv2.wp_region_inv (fun b a wy => ∃ z11 z12 z13 z14 z51 z52 z53 z54 z55 z56 z57 z58 z59 z60 z61 z62 z63 z64 z65 z66 z67 z68, a = ⟨(List.toArray (.int .u16 (x0.toNat : Int) :: .int .u8 (k : Int) :: undef :: undef :: u4 :: .pointer (some ⟨D.X, 0, none⟩) :: .bool true :: u7 :: u8 :: .int .i64 (q2.room : Int) :: .int .i64 (need q2.s.n : Int) :: z11 :: z12 :: z13 :: z14 :: .tuple #[.pointer (some ⟨D.X, 0, none⟩), .bool true] :: .int .u16 (x0.toNat : Int) :: .tuple #[.pointer (some ⟨D.X, 0, none⟩), .bool true] :: .pointer (some ⟨D.X, 0, none⟩) :: .bool true :: .bool true :: .bool false :: .pointer (some ⟨D.X, 0, none⟩) :: .pointer (some ⟨D.X, 0, none⟩) :: .pointer (some ⟨D.X, 1, none⟩) :: .pointer (some ⟨D.p, 0, none⟩) :: .int .i64 (q2.room : Int) :: .int .u8 (k : Int) :: .int .i64 (k : Int) :: .bool false :: u30 :: u31 :: u32 :: u33 :: u34 :: u35 :: u36 :: u37 :: u38 :: u39 :: .pointer (some ⟨D.X, 0, none⟩) :: .pointer (some ⟨D.X, 0, none⟩) :: .pointer (some ⟨D.X, 1, none⟩) :: .pointer (some ⟨D.p, 0, none⟩) :: .int .i64 (q2.room : Int) :: .pointer (some ⟨D.X, 0, none⟩) :: .pointer (some ⟨D.X, 0, none⟩) :: .pointer (some ⟨D.X, 0, none⟩) :: .pointer (some ⟨D.ta, 0, none⟩) :: .int .i64 (q2.s.n : Int) :: .int .i64 (need q2.s.n : Int) :: z51 :: z52 :: z53 :: z54 :: z55 :: z56 :: z57 :: z58 :: z59 :: z60 :: z61 :: z62 :: z63 :: z64 :: z65 :: z66 :: z67 :: z68 :: undef :: undef :: undef :: undef :: undef :: undef :: undef :: undef :: undef :: undef :: undef :: undef :: undef :: undef :: undef :: undef :: undef :: undef :: undef :: undef :: undef :: undef :: undef :: undef :: undef :: undef :: undef :: undef :: undef :: undef :: undef :: [])), []⟩ ∧ Hid ((b 0 = true → z52 = .pointer (some ⟨D.X, 0, none⟩)) ∧ (b 1 = true → z53 = .pointer (some ⟨D.X, 0, none⟩)) ∧ (b 2 = true → z54 = .pointer (some ⟨D.X, 0, none⟩)) ∧ (b 3 = true → z55 = .pointer (some ⟨D.ta, 0, none⟩)) ∧ (b 4 = true → z56 = .pointer (some ⟨D.X, 0, none⟩)) ∧ (b 5 = true → z57 = .pointer (some ⟨D.X, 0, none⟩)) ∧ (b 6 = true → z58 = .pointer (some ⟨D.X, 1, none⟩)) ∧ (b 7 = true → z59 = .pointer (some ⟨D.p, 0, none⟩)) ∧ (b 8 = true → z60 = .pointer (some ⟨D.X, 0, none⟩)) ∧ (b 9 = true → z61 = .pointer (some ⟨D.X, 0, none⟩)) ∧ (b 10 = true → z62 = .pointer (some ⟨D.X, 2, none⟩)) ∧ (b 11 = true → z63 = .agg #[.slice (some ⟨D.g1, 0, none⟩) l1.length D.d1, .slice (some ⟨D.g3, 0, none⟩) l2.length D.d3])) ∧ Hid (Below w.heap.size w wy) ∧ Hid (∃ (y : Wk) (t1 f1 t3 f3 : Nat) (v1 v2 : Value), (b 12 = false → Stg wy D q2 l1 l2) ∧ (b 12 = true → z64 = .tuple #[.agg #[.slice (some ⟨t1, 0, none⟩) l1.length f1, .slice (some ⟨t3, 0, none⟩) l2.length f3], v1, v2, .int .i64 0] ∧ Anew q2 l1 l2 y ∧ Told wy D l1 l2 y t1 t3 v1 v2) ∧ (b 13 = true → b 12 = true ∧ z51 = .tuple #[.agg #[.slice (some ⟨t1, 0, none⟩) l1.length f1, .slice (some ⟨t3, 0, none⟩) l2.length f3], v1, v2, .int .i64 0]) ∧ (b 14 = true → b 12 = true ∧ z65 = .agg #[.slice (some ⟨t1, 0, none⟩) l1.length f1, .slice (some ⟨t3, 0, none⟩) l2.length f3]) ∧ (b 15 = true → b 12 = true ∧ z66 = v1) ∧ (b 16 = true → b 12 = true ∧ z67 = v2) ∧ (b 17 = true → b 12 = true ∧ z68 = .int .i64 0) ∧ (b 18 = true → ∃ r, z11 = .pointer (some ⟨r, 0, none⟩) ∧ w.heap.size ≤ r ∧ (b 19 = false → RowV wy r 42 [.slice none 0 0, .slice none 0 0]) ∧ (b 19 = true → b 14 = true ∧ RowV wy r 42 [.slice (some ⟨t1, 0, none⟩) l1.length f1, .slice (some ⟨t3, 0, none⟩) l2.length f3])) ∧ (b 19 = true → b 18 = true) ∧ (b 20 = true → b 12 = true ∧ z12 = v1) ∧ (b 21 = true → b 12 = true ∧ z13 = v2) ∧ (b 22 = true → b 12 = true ∧ z14 = .int .i64 0))) (by kernel_rfl) (by kernel_rfl) ?startE2 ?stepsE2 ?doneE2
        case startE2 =>
          intro b hb
          refine ⟨undef, undef, undef, undef, undef, undef, undef, undef, undef, undef, undef, undef, undef, undef, undef, undef, undef, undef, undef, undef, undef, undef, rfl, Lib.hid ⟨?_, ?_, ?_, ?_, ?_, ?_, ?_, ?_, ?_, ?_, ?_, ?_⟩, Lib.hid (HB.out.trans <| (show Still w4 w4.drew from ⟨rfl, rfl, rfl, rfl⟩).below _), Lib.hid (⟨begin q2 l1 l2, 0, 0, 0, 0, undef, undef, fun _ => HS.out.kept ((show Still w4 w4.drew from ⟨rfl, rfl, rfl, rfl⟩).below _), (fun e => by rw [hb _ (by decide)] at e; cases e), (fun e => by rw [hb _ (by decide)] at e; cases e), (fun e => by rw [hb _ (by decide)] at e; cases e), (fun e => by rw [hb _ (by decide)] at e; cases e), (fun e => by rw [hb _ (by decide)] at e; cases e), (fun e => by rw [hb _ (by decide)] at e; cases e), (fun e => by rw [hb _ (by decide)] at e; cases e), (fun e => by rw [hb _ (by decide)] at e; cases e), (fun e => by rw [hb _ (by decide)] at e; cases e), (fun e => by rw [hb _ (by decide)] at e; cases e), (fun e => by rw [hb _ (by decide)] at e; cases e)⟩)⟩
          all_goals (intro e; first | rfl | (rw [hb _ (by decide)] at e; cases e))
        case stepsE2 =>
          refine ⟨?_, ?_, ?_, ?_, ?_, ?_, ?_, ?_, ?_, ?_, ?_, ?_, ?_, ?_, ?_, ?_, ?_, ?_, ?_, ?_, ?_, ?_, ?_, trivial⟩
          · rintro b a wy hb hd ⟨z11, z12, z13, z14, z51, z52, z53, z54, z55, z56, z57, z58, z59, z60, z61, z62, z63, z64, z65, z66, z67, z68, rfl, HV, HW, HX⟩ K hK
            obtain ⟨h0, h1, h2, h3, h4, h5, h6, h7, h8, h9, h10, h11⟩ := HV.out
            clear hd
            go_simp
            exact hK _ _ ⟨_, _, _, _, _, _, _, _, _, _, _, _, _, _, _, _, _, _, _, _, _, _, rfl, Lib.hid ⟨fun _ => rfl, h1, h2, h3, h4, h5, h6, h7, h8, h9, h10, h11⟩, HW, HX⟩
          · rintro b a wy hb hd ⟨z11, z12, z13, z14, z51, z52, z53, z54, z55, z56, z57, z58, z59, z60, z61, z62, z63, z64, z65, z66, z67, z68, rfl, HV, HW, HX⟩ K hK
            obtain ⟨h0, h1, h2, h3, h4, h5, h6, h7, h8, h9, h10, h11⟩ := HV.out
            simp [Region.binds] at hd
            obtain rfl := h0 (by simp [hd])
            clear hd
            go_simp
            exact hK _ _ ⟨_, _, _, _, _, _, _, _, _, _, _, _, _, _, _, _, _, _, _, _, _, _, rfl, Lib.hid ⟨h0, fun _ => rfl, h2, h3, h4, h5, h6, h7, h8, h9, h10, h11⟩, HW, HX⟩
          · rintro b a wy hb hd ⟨z11, z12, z13, z14, z51, z52, z53, z54, z55, z56, z57, z58, z59, z60, z61, z62, z63, z64, z65, z66, z67, z68, rfl, HV, HW, HX⟩ K hK
            obtain ⟨h0, h1, h2, h3, h4, h5, h6, h7, h8, h9, h10, h11⟩ := HV.out
            simp [Region.binds] at hd
            obtain rfl := h1 (by simp [hd])
            clear hd
            go_simp
            exact hK _ _ ⟨_, _, _, _, _, _, _, _, _, _, _, _, _, _, _, _, _, _, _, _, _, _, rfl, Lib.hid ⟨h0, h1, fun _ => rfl, h3, h4, h5, h6, h7, h8, h9, h10, h11⟩, HW, HX⟩
          · rintro b a wy hb hd ⟨z11, z12, z13, z14, z51, z52, z53, z54, z55, z56, z57, z58, z59, z60, z61, z62, z63, z64, z65, z66, z67, z68, rfl, HV, HW, HX⟩ K hK
            obtain ⟨h0, h1, h2, h3, h4, h5, h6, h7, h8, h9, h10, h11⟩ := HV.out
            simp [Region.binds] at hd
            obtain rfl := h2 (by simp [hd])
            clear hd
            obtain ⟨y, t1, f1, t3, f3, v1, v2, x1, x2, x3, x4, x5, x6, x7, x8, x9, x10, x11, x12⟩ := HX.out
            have hst : ∃ q', Stg wy D q' l1 l2 := (by cases e12 : b 12 with | false => exact ⟨_, x1 e12⟩ | true => exact ⟨_, (x2 e12).2.2.stg⟩)
            obtain ⟨q9, hst⟩ := hst
            have c0 := hst.row.cellAt (i := 0) rfl
            clear hst x1 x2 x3 x4 x5 x6 x7 x8 x9 x10 x11 x12
            go_simp
            exact hK _ _ ⟨_, _, _, _, _, _, _, _, _, _, _, _, _, _, _, _, _, _, _, _, _, _, rfl, Lib.hid ⟨h0, h1, h2, fun _ => rfl, h4, h5, h6, h7, h8, h9, h10, h11⟩, HW, HX⟩
          · rintro b a wy hb hd ⟨z11, z12, z13, z14, z51, z52, z53, z54, z55, z56, z57, z58, z59, z60, z61, z62, z63, z64, z65, z66, z67, z68, rfl, HV, HW, HX⟩ K hK
            obtain ⟨h0, h1, h2, h3, h4, h5, h6, h7, h8, h9, h10, h11⟩ := HV.out
            clear hd
            go_simp
            exact hK _ _ ⟨_, _, _, _, _, _, _, _, _, _, _, _, _, _, _, _, _, _, _, _, _, _, rfl, Lib.hid ⟨h0, h1, h2, h3, fun _ => rfl, h5, h6, h7, h8, h9, h10, h11⟩, HW, HX⟩
          · rintro b a wy hb hd ⟨z11, z12, z13, z14, z51, z52, z53, z54, z55, z56, z57, z58, z59, z60, z61, z62, z63, z64, z65, z66, z67, z68, rfl, HV, HW, HX⟩ K hK
            obtain ⟨h0, h1, h2, h3, h4, h5, h6, h7, h8, h9, h10, h11⟩ := HV.out
            simp [Region.binds] at hd
            obtain rfl := h4 (by simp [hd])
            clear hd
            go_simp
            exact hK _ _ ⟨_, _, _, _, _, _, _, _, _, _, _, _, _, _, _, _, _, _, _, _, _, _, rfl, Lib.hid ⟨h0, h1, h2, h3, h4, fun _ => rfl, h6, h7, h8, h9, h10, h11⟩, HW, HX⟩
          · rintro b a wy hb hd ⟨z11, z12, z13, z14, z51, z52, z53, z54, z55, z56, z57, z58, z59, z60, z61, z62, z63, z64, z65, z66, z67, z68, rfl, HV, HW, HX⟩ K hK
            obtain ⟨h0, h1, h2, h3, h4, h5, h6, h7, h8, h9, h10, h11⟩ := HV.out
            simp [Region.binds] at hd
            obtain rfl := h5 (by simp [hd])
            clear hd
            go_simp
            exact hK _ _ ⟨_, _, _, _, _, _, _, _, _, _, _, _, _, _, _, _, _, _, _, _, _, _, rfl, Lib.hid ⟨h0, h1, h2, h3, h4, h5, fun _ => rfl, h7, h8, h9, h10, h11⟩, HW, HX⟩
          · rintro b a wy hb hd ⟨z11, z12, z13, z14, z51, z52, z53, z54, z55, z56, z57, z58, z59, z60, z61, z62, z63, z64, z65, z66, z67, z68, rfl, HV, HW, HX⟩ K hK
            obtain ⟨h0, h1, h2, h3, h4, h5, h6, h7, h8, h9, h10, h11⟩ := HV.out
            simp [Region.binds] at hd
            obtain rfl := h6 (by simp [hd])
            clear hd
            obtain ⟨y, t1, f1, t3, f3, v1, v2, x1, x2, x3, x4, x5, x6, x7, x8, x9, x10, x11, x12⟩ := HX.out
            have hst : ∃ q', Stg wy D q' l1 l2 := (by cases e12 : b 12 with | false => exact ⟨_, x1 e12⟩ | true => exact ⟨_, (x2 e12).2.2.stg⟩)
            obtain ⟨q9, hst⟩ := hst
            have c1 := hst.row.cellAt (i := 1) rfl
            clear hst x1 x2 x3 x4 x5 x6 x7 x8 x9 x10 x11 x12
            go_simp
            exact hK _ _ ⟨_, _, _, _, _, _, _, _, _, _, _, _, _, _, _, _, _, _, _, _, _, _, rfl, Lib.hid ⟨h0, h1, h2, h3, h4, h5, h6, fun _ => rfl, h8, h9, h10, h11⟩, HW, HX⟩
          · rintro b a wy hb hd ⟨z11, z12, z13, z14, z51, z52, z53, z54, z55, z56, z57, z58, z59, z60, z61, z62, z63, z64, z65, z66, z67, z68, rfl, HV, HW, HX⟩ K hK
            obtain ⟨h0, h1, h2, h3, h4, h5, h6, h7, h8, h9, h10, h11⟩ := HV.out
            clear hd
            go_simp
            exact hK _ _ ⟨_, _, _, _, _, _, _, _, _, _, _, _, _, _, _, _, _, _, _, _, _, _, rfl, Lib.hid ⟨h0, h1, h2, h3, h4, h5, h6, h7, fun _ => rfl, h9, h10, h11⟩, HW, HX⟩
          · rintro b a wy hb hd ⟨z11, z12, z13, z14, z51, z52, z53, z54, z55, z56, z57, z58, z59, z60, z61, z62, z63, z64, z65, z66, z67, z68, rfl, HV, HW, HX⟩ K hK
            obtain ⟨h0, h1, h2, h3, h4, h5, h6, h7, h8, h9, h10, h11⟩ := HV.out
            simp [Region.binds] at hd
            obtain rfl := h8 (by simp [hd])
            clear hd
            go_simp
            exact hK _ _ ⟨_, _, _, _, _, _, _, _, _, _, _, _, _, _, _, _, _, _, _, _, _, _, rfl, Lib.hid ⟨h0, h1, h2, h3, h4, h5, h6, h7, h8, fun _ => rfl, h10, h11⟩, HW, HX⟩
          · rintro b a wy hb hd ⟨z11, z12, z13, z14, z51, z52, z53, z54, z55, z56, z57, z58, z59, z60, z61, z62, z63, z64, z65, z66, z67, z68, rfl, HV, HW, HX⟩ K hK
            obtain ⟨h0, h1, h2, h3, h4, h5, h6, h7, h8, h9, h10, h11⟩ := HV.out
            simp [Region.binds] at hd
            obtain rfl := h9 (by simp [hd])
            clear hd
            go_simp
            exact hK _ _ ⟨_, _, _, _, _, _, _, _, _, _, _, _, _, _, _, _, _, _, _, _, _, _, rfl, Lib.hid ⟨h0, h1, h2, h3, h4, h5, h6, h7, h8, h9, fun _ => rfl, h11⟩, HW, HX⟩
          · rintro b a wy hb hd ⟨z11, z12, z13, z14, z51, z52, z53, z54, z55, z56, z57, z58, z59, z60, z61, z62, z63, z64, z65, z66, z67, z68, rfl, HV, HW, HX⟩ K hK
            obtain ⟨h0, h1, h2, h3, h4, h5, h6, h7, h8, h9, h10, h11⟩ := HV.out
            simp [Region.binds] at hd
            obtain rfl := h10 (by simp [hd])
            clear hd
            obtain ⟨y, t1, f1, t3, f3, v1, v2, x1, x2, x3, x4, x5, x6, x7, x8, x9, x10, x11, x12⟩ := HX.out
            have hst : ∃ q', Stg wy D q' l1 l2 := (by cases e12 : b 12 with | false => exact ⟨_, x1 e12⟩ | true => exact ⟨_, (x2 e12).2.2.stg⟩)
            obtain ⟨q9, hst⟩ := hst
            have c2 := hst.row.cellAt (i := 2) rfl
            have c3 := hst.row.cellAt (i := 3) rfl
            clear hst x1 x2 x3 x4 x5 x6 x7 x8 x9 x10 x11 x12
            go_simp
            exact hK _ _ ⟨_, _, _, _, _, _, _, _, _, _, _, _, _, _, _, _, _, _, _, _, _, _, rfl, Lib.hid ⟨h0, h1, h2, h3, h4, h5, h6, h7, h8, h9, h10, fun _ => rfl⟩, HW, HX⟩
          · rintro b a wy hb hd ⟨z11, z12, z13, z14, z51, z52, z53, z54, z55, z56, z57, z58, z59, z60, z61, z62, z63, z64, z65, z66, z67, z68, rfl, HV, HW, HX⟩ K hK
            obtain ⟨h0, h1, h2, h3, h4, h5, h6, h7, h8, h9, h10, h11⟩ := HV.out
            simp [Region.binds] at hd
            obtain rfl := h3 (by simp [hd])
            obtain rfl := h7 (by simp [hd])
            obtain rfl := h11 (by simp [hd])
            clear hd
            obtain ⟨y, t1, f1, t3, f3, v1, v2, x1, x2, x3, x4, x5, x6, x7, x8, x9, x10, x11, x12⟩ := HX.out
            have HST := Lib.hid (x1 hb)
            have HXX := Lib.hid (And.intro x8 x9)
            have nb : ∀ j, (b j = true → b 12 = true) → ¬ b j = true := fun j h e => absurd (h e) (by rw [hb]; decide)
            have NB := Lib.hid (And.intro (nb 13 fun e => (x3 e).1) (And.intro (nb 14 fun e => (x4 e).1) (And.intro (nb 15 fun e => (x5 e).1) (And.intro (nb 16 fun e => (x6 e).1) (And.intro (nb 17 fun e => (x7 e).1) (And.intro (nb 20 fun e => (x10 e).1) (And.intro (nb 21 fun e => (x11 e).1) (nb 22 fun e => (x12 e).1))))))))
            clear x1 x2 x3 x4 x5 x6 x7 x8 x9 x10 x11 x12 nb HX
            go_simp
            go_at_call 22
            refine (place_yes HST.out.pat (has_told HST.out.r1) (has_told HST.out.r2) HSO2.out.right (by omega)).mono ?_
            rintro e wz ⟨y, t1, f1, t3, f3, v1, v2, rfl, hrun, hpat, hr1, hr3, hv1, hv2, _, _, hbut⟩
            try go_simp
            have HNEW := Lib.hid (Sound.anew HSO2.out (by omega) hrun)
            have HTD := Lib.hid (show Told wz D l1 l2 y t1 t3 v1 v2 from ⟨HST.out.turnL hpat hbut, hr1, hr3, hv1, hv2⟩)
            have HPP := Lib.hid HST.out.pat
            exact hK _ _ ⟨_, _, _, _, _, _, _, _, _, _, _, _, _, _, _, _, _, _, _, _, _, _, rfl, Lib.hid ⟨h0, h1, h2, h3, h4, h5, h6, h7, h8, h9, h10, h11⟩, Lib.hid (HW.out.trans (hbut.below (by simp; exact HBL.out) HW.out.size)), Lib.hid ⟨y, t1, f1, t3, f3, v1, v2, fun e => (by cases e), fun _ => ⟨rfl, HNEW.out, HTD.out⟩, fun e => absurd e NB.out.1, fun e => absurd e NB.out.2.1, fun e => absurd e NB.out.2.2.1, fun e => absurd e NB.out.2.2.2.1, fun e => absurd e NB.out.2.2.2.2.1, fun e => (by obtain ⟨r, y1, y0, y2, y3⟩ := HXX.out.1 e; exact ⟨r, y1, y0, fun e2 => turn_row HPP.out hbut (y2 e2) (by decide), fun e2 => absurd (y3 e2).1 NB.out.2.1⟩), HXX.out.2, fun e => absurd e NB.out.2.2.2.2.2.1, fun e => absurd e NB.out.2.2.2.2.2.2.1, fun e => absurd e NB.out.2.2.2.2.2.2.2⟩⟩
          · rintro b a wy hb hd ⟨z11, z12, z13, z14, z51, z52, z53, z54, z55, z56, z57, z58, z59, z60, z61, z62, z63, z64, z65, z66, z67, z68, rfl, HV, HW, HX⟩ K hK
            obtain ⟨h0, h1, h2, h3, h4, h5, h6, h7, h8, h9, h10, h11⟩ := HV.out
            simp [Region.binds] at hd
            have dd12 : b 12 = true := by simp [hd]
            clear hd
            obtain ⟨y, t1, f1, t3, f3, v1, v2, x1, x2, x3, x4, x5, x6, x7, x8, x9, x10, x11, x12⟩ := HX.out
            obtain ⟨rfl, ha, ht⟩ := x2 dd12
            go_simp
            exact hK _ _ ⟨_, _, _, _, _, _, _, _, _, _, _, _, _, _, _, _, _, _, _, _, _, _, rfl, Lib.hid ⟨h0, h1, h2, h3, h4, h5, h6, h7, h8, h9, h10, h11⟩, HW, Lib.hid ⟨y, t1, f1, t3, f3, v1, v2, x1, fun _ => ⟨rfl, ha, ht⟩, fun _ => ⟨dd12, rfl⟩, x4, x5, x6, x7, x8, x9, x10, x11, x12⟩⟩
          · rintro b a wy hb hd ⟨z11, z12, z13, z14, z51, z52, z53, z54, z55, z56, z57, z58, z59, z60, z61, z62, z63, z64, z65, z66, z67, z68, rfl, HV, HW, HX⟩ K hK
            obtain ⟨h0, h1, h2, h3, h4, h5, h6, h7, h8, h9, h10, h11⟩ := HV.out
            simp [Region.binds] at hd
            have dd13 : b 13 = true := by simp [hd]
            clear hd
            obtain ⟨y, t1, f1, t3, f3, v1, v2, x1, x2, x3, x4, x5, x6, x7, x8, x9, x10, x11, x12⟩ := HX.out
            obtain ⟨d12, rfl⟩ := x3 dd13
            obtain ⟨rfl, ha, ht⟩ := x2 d12
            go_simp
            exact hK _ _ ⟨_, _, _, _, _, _, _, _, _, _, _, _, _, _, _, _, _, _, _, _, _, _, rfl, Lib.hid ⟨h0, h1, h2, h3, h4, h5, h6, h7, h8, h9, h10, h11⟩, HW, Lib.hid ⟨y, t1, f1, t3, f3, v1, v2, x1, fun _ => ⟨rfl, ha, ht⟩, x3, fun _ => ⟨d12, rfl⟩, x5, x6, x7, fun e => (by obtain ⟨r, y1, y0, y2, y3⟩ := x8 e; exact ⟨r, y1, y0, y2, fun e2 => absurd (y3 e2).1 (by rw [hb]; decide)⟩), x9, x10, x11, x12⟩⟩
          · rintro b a wy hb hd ⟨z11, z12, z13, z14, z51, z52, z53, z54, z55, z56, z57, z58, z59, z60, z61, z62, z63, z64, z65, z66, z67, z68, rfl, HV, HW, HX⟩ K hK
            obtain ⟨h0, h1, h2, h3, h4, h5, h6, h7, h8, h9, h10, h11⟩ := HV.out
            simp [Region.binds] at hd
            have dd13 : b 13 = true := by simp [hd]
            clear hd
            obtain ⟨y, t1, f1, t3, f3, v1, v2, x1, x2, x3, x4, x5, x6, x7, x8, x9, x10, x11, x12⟩ := HX.out
            obtain ⟨d12, rfl⟩ := x3 dd13
            obtain ⟨rfl, ha, ht⟩ := x2 d12
            go_simp
            exact hK _ _ ⟨_, _, _, _, _, _, _, _, _, _, _, _, _, _, _, _, _, _, _, _, _, _, rfl, Lib.hid ⟨h0, h1, h2, h3, h4, h5, h6, h7, h8, h9, h10, h11⟩, HW, Lib.hid ⟨y, t1, f1, t3, f3, v1, v2, x1, fun _ => ⟨rfl, ha, ht⟩, x3, x4, fun _ => ⟨d12, rfl⟩, x6, x7, x8, x9, x10, x11, x12⟩⟩
          · rintro b a wy hb hd ⟨z11, z12, z13, z14, z51, z52, z53, z54, z55, z56, z57, z58, z59, z60, z61, z62, z63, z64, z65, z66, z67, z68, rfl, HV, HW, HX⟩ K hK
            obtain ⟨h0, h1, h2, h3, h4, h5, h6, h7, h8, h9, h10, h11⟩ := HV.out
            simp [Region.binds] at hd
            have dd13 : b 13 = true := by simp [hd]
            clear hd
            obtain ⟨y, t1, f1, t3, f3, v1, v2, x1, x2, x3, x4, x5, x6, x7, x8, x9, x10, x11, x12⟩ := HX.out
            obtain ⟨d12, rfl⟩ := x3 dd13
            obtain ⟨rfl, ha, ht⟩ := x2 d12
            go_simp
            exact hK _ _ ⟨_, _, _, _, _, _, _, _, _, _, _, _, _, _, _, _, _, _, _, _, _, _, rfl, Lib.hid ⟨h0, h1, h2, h3, h4, h5, h6, h7, h8, h9, h10, h11⟩, HW, Lib.hid ⟨y, t1, f1, t3, f3, v1, v2, x1, fun _ => ⟨rfl, ha, ht⟩, x3, x4, x5, fun _ => ⟨d12, rfl⟩, x7, x8, x9, x10, x11, x12⟩⟩
          · rintro b a wy hb hd ⟨z11, z12, z13, z14, z51, z52, z53, z54, z55, z56, z57, z58, z59, z60, z61, z62, z63, z64, z65, z66, z67, z68, rfl, HV, HW, HX⟩ K hK
            obtain ⟨h0, h1, h2, h3, h4, h5, h6, h7, h8, h9, h10, h11⟩ := HV.out
            simp [Region.binds] at hd
            have dd13 : b 13 = true := by simp [hd]
            clear hd
            obtain ⟨y, t1, f1, t3, f3, v1, v2, x1, x2, x3, x4, x5, x6, x7, x8, x9, x10, x11, x12⟩ := HX.out
            obtain ⟨d12, rfl⟩ := x3 dd13
            obtain ⟨rfl, ha, ht⟩ := x2 d12
            go_simp
            exact hK _ _ ⟨_, _, _, _, _, _, _, _, _, _, _, _, _, _, _, _, _, _, _, _, _, _, rfl, Lib.hid ⟨h0, h1, h2, h3, h4, h5, h6, h7, h8, h9, h10, h11⟩, HW, Lib.hid ⟨y, t1, f1, t3, f3, v1, v2, x1, fun _ => ⟨rfl, ha, ht⟩, x3, x4, x5, x6, fun _ => ⟨d12, rfl⟩, x8, x9, x10, x11, x12⟩⟩
          · rintro b a wy hb hd ⟨z11, z12, z13, z14, z51, z52, z53, z54, z55, z56, z57, z58, z59, z60, z61, z62, z63, z64, z65, z66, z67, z68, rfl, HV, HW, HX⟩ K hK
            obtain ⟨h0, h1, h2, h3, h4, h5, h6, h7, h8, h9, h10, h11⟩ := HV.out
            clear hd
            obtain ⟨y, t1, f1, t3, f3, v1, v2, x1, x2, x3, x4, x5, x6, x7, x8, x9, x10, x11, x12⟩ := HX.out
            have hz := sheet_zero wy
            go_simp
            have B2 := (Below.refl wy.heap.size wy).alloc (Nat.le_refl _) (.cells #[.slice none 0 0, .slice none 0 0] 42)
            have R2 := alloc_rowV wy 42 [.slice none 0 0, .slice none 0 0]
            exact hK _ _ ⟨_, _, _, _, _, _, _, _, _, _, _, _, _, _, _, _, _, _, _, _, _, _, rfl, Lib.hid ⟨h0, h1, h2, h3, h4, h5, h6, h7, h8, h9, h10, h11⟩, Lib.hid (HW.out.trans (B2.mono HW.out.size)), Lib.hid ⟨y, t1, f1, t3, f3, v1, v2, fun e => (x1 e).kept B2, fun e => ⟨(x2 e).1, (x2 e).2.1, (x2 e).2.2.kept B2⟩, x3, x4, x5, x6, x7, fun _ => ⟨wy.heap.size, rfl, HW.out.size, fun _ => R2, fun e => absurd (x9 e) (by rw [hb]; decide)⟩, fun _ => rfl, x10, x11, x12⟩⟩
          · rintro b a wy hb hd ⟨z11, z12, z13, z14, z51, z52, z53, z54, z55, z56, z57, z58, z59, z60, z61, z62, z63, z64, z65, z66, z67, z68, rfl, HV, HW, HX⟩ K hK
            obtain ⟨h0, h1, h2, h3, h4, h5, h6, h7, h8, h9, h10, h11⟩ := HV.out
            simp [Region.binds] at hd
            have dd18 : b 18 = true := by simp [hd]
            have dd14 : b 14 = true := by simp [hd]
            clear hd
            obtain ⟨y, t1, f1, t3, f3, v1, v2, x1, x2, x3, x4, x5, x6, x7, x8, x9, x10, x11, x12⟩ := HX.out
            obtain ⟨r, rfl, hlo, hr1, _⟩ := x8 dd18
            have HRLO := hlo
            obtain ⟨d12, rfl⟩ := x4 dd14
            obtain ⟨hz12, ha, ht⟩ := x2 d12
            have hr := hr1 hb
            have q0 := hr.cellAt (i := 0) rfl
            have q1 := hr.cellAt (i := 1) rfl
            have fz0 := hr.free 0
            have fz1 := hr.free 1
            have HA3 := Lib.hid ((hr.set 0 (.slice (some ⟨t1, 0, none⟩) l1.length f1)).set 1 (.slice (some ⟨t3, 0, none⟩) l2.length f3))
            have HU := Lib.hid ((ButL.set wy r 0 (.slice (some ⟨t1, 0, none⟩) l1.length f1)).trans (ButL.set _ r 1 (.slice (some ⟨t3, 0, none⟩) l2.length f3)))
            have HRH := Lib.hid hr
            have HTD := Lib.hid (And.intro hz12 (And.intro ha ht))
            have HD := Lib.hid (And.intro d12 (And.intro dd14 dd18))
            have HXX := Lib.hid (And.intro x3 (And.intro x4 (And.intro x5 (And.intro x6 (And.intro x7 (And.intro x10 (And.intro x11 x12)))))))
            clear x1 x2 x3 x4 x5 x6 x7 x8 x9 x10 x11 x12 hr hr1 hz12 ha ht d12 dd14 dd18 HX
            go_simp
            exact hK _ _ ⟨_, _, _, _, _, _, _, _, _, _, _, _, _, _, _, _, _, _, _, _, _, _, rfl, Lib.hid ⟨h0, h1, h2, h3, h4, h5, h6, h7, h8, h9, h10, h11⟩, Lib.hid (HW.out.trans (HU.out.below (by simp; exact HRLO) HW.out.size)), Lib.hid ⟨y, t1, f1, t3, f3, v1, v2, fun e => absurd ((show b 12 = false from e).symm.trans HD.out.1) (by decide), fun _ => ⟨HTD.out.1, HTD.out.2.1, HTD.out.2.2.box HRH.out HU.out⟩, HXX.out.1, fun _ => ⟨HD.out.1, rfl⟩, HXX.out.2.2.1, HXX.out.2.2.2.1, HXX.out.2.2.2.2.1, fun _ => ⟨r, rfl, HRLO, fun e => (by cases e), fun _ => ⟨HD.out.2.1, HA3.out⟩⟩, fun _ => HD.out.2.2, HXX.out.2.2.2.2.2.1, HXX.out.2.2.2.2.2.2.1, HXX.out.2.2.2.2.2.2.2⟩⟩
          · rintro b a wy hb hd ⟨z11, z12, z13, z14, z51, z52, z53, z54, z55, z56, z57, z58, z59, z60, z61, z62, z63, z64, z65, z66, z67, z68, rfl, HV, HW, HX⟩ K hK
            obtain ⟨h0, h1, h2, h3, h4, h5, h6, h7, h8, h9, h10, h11⟩ := HV.out
            simp [Region.binds] at hd
            have dd15 : b 15 = true := by simp [hd]
            clear hd
            obtain ⟨y, t1, f1, t3, f3, v1, v2, x1, x2, x3, x4, x5, x6, x7, x8, x9, x10, x11, x12⟩ := HX.out
            obtain ⟨d12, rfl⟩ := x5 dd15
            obtain ⟨rfl, ha, ht⟩ := x2 d12
            go_simp
            exact hK _ _ ⟨_, _, _, _, _, _, _, _, _, _, _, _, _, _, _, _, _, _, _, _, _, _, rfl, Lib.hid ⟨h0, h1, h2, h3, h4, h5, h6, h7, h8, h9, h10, h11⟩, HW, Lib.hid ⟨y, t1, f1, t3, f3, _, _, x1, fun _ => ⟨rfl, ha, ht⟩, x3, x4, x5, x6, x7, x8, x9, fun _ => ⟨d12, rfl⟩, x11, x12⟩⟩
          · rintro b a wy hb hd ⟨z11, z12, z13, z14, z51, z52, z53, z54, z55, z56, z57, z58, z59, z60, z61, z62, z63, z64, z65, z66, z67, z68, rfl, HV, HW, HX⟩ K hK
            obtain ⟨h0, h1, h2, h3, h4, h5, h6, h7, h8, h9, h10, h11⟩ := HV.out
            simp [Region.binds] at hd
            have dd16 : b 16 = true := by simp [hd]
            clear hd
            obtain ⟨y, t1, f1, t3, f3, v1, v2, x1, x2, x3, x4, x5, x6, x7, x8, x9, x10, x11, x12⟩ := HX.out
            obtain ⟨d12, rfl⟩ := x6 dd16
            obtain ⟨rfl, ha, ht⟩ := x2 d12
            go_simp
            exact hK _ _ ⟨_, _, _, _, _, _, _, _, _, _, _, _, _, _, _, _, _, _, _, _, _, _, rfl, Lib.hid ⟨h0, h1, h2, h3, h4, h5, h6, h7, h8, h9, h10, h11⟩, HW, Lib.hid ⟨y, t1, f1, t3, f3, _, _, x1, fun _ => ⟨rfl, ha, ht⟩, x3, x4, x5, x6, x7, x8, x9, x10, fun _ => ⟨d12, rfl⟩, x12⟩⟩
          · rintro b a wy hb hd ⟨z11, z12, z13, z14, z51, z52, z53, z54, z55, z56, z57, z58, z59, z60, z61, z62, z63, z64, z65, z66, z67, z68, rfl, HV, HW, HX⟩ K hK
            obtain ⟨h0, h1, h2, h3, h4, h5, h6, h7, h8, h9, h10, h11⟩ := HV.out
            simp [Region.binds] at hd
            have dd17 : b 17 = true := by simp [hd]
            clear hd
            obtain ⟨y, t1, f1, t3, f3, v1, v2, x1, x2, x3, x4, x5, x6, x7, x8, x9, x10, x11, x12⟩ := HX.out
            obtain ⟨d12, rfl⟩ := x7 dd17
            obtain ⟨rfl, ha, ht⟩ := x2 d12
            go_simp
            exact hK _ _ ⟨_, _, _, _, _, _, _, _, _, _, _, _, _, _, _, _, _, _, _, _, _, _, rfl, Lib.hid ⟨h0, h1, h2, h3, h4, h5, h6, h7, h8, h9, h10, h11⟩, HW, Lib.hid ⟨y, t1, f1, t3, f3, _, _, x1, fun _ => ⟨rfl, ha, ht⟩, x3, x4, x5, x6, x7, x8, x9, x10, x11, fun _ => ⟨d12, rfl⟩⟩⟩
        case doneE2 =>
          rintro b a wy hb ⟨z11, z12, z13, z14, z51, z52, z53, z54, z55, z56, z57, z58, z59, z60, z61, z62, z63, z64, z65, z66, z67, z68, rfl, HV, HW, HX⟩
          obtain ⟨h0, h1, h2, h3, h4, h5, h6, h7, h8, h9, h10, h11⟩ := HV.out
          obtain rfl := h0 (hb 0)
          obtain rfl := h1 (hb 1)
          obtain rfl := h2 (hb 2)
          obtain rfl := h3 (hb 3)
          obtain rfl := h4 (hb 4)
          obtain rfl := h5 (hb 5)
          obtain rfl := h6 (hb 6)
          obtain rfl := h7 (hb 7)
          obtain rfl := h8 (hb 8)
          obtain rfl := h9 (hb 9)
          obtain rfl := h10 (hb 10)
          obtain rfl := h11 (hb 11)
          clear HV h0 h1 h2 h3 h4 h5 h6 h7 h8 h9 h10 h11
          obtain ⟨y, t1, f1, t3, f3, v1, v2, _, x2, x3, x4, x5, x6, x7, x8, _, x10, x11, x12⟩ := HX.out
          obtain ⟨rfl, ha, ht⟩ := x2 (hb 12)
          obtain ⟨_, rfl⟩ := x3 (hb 13)
          obtain ⟨_, rfl⟩ := x4 (hb 14)
          obtain ⟨_, rfl⟩ := x5 (hb 15)
          obtain ⟨_, rfl⟩ := x6 (hb 16)
          obtain ⟨_, rfl⟩ := x7 (hb 17)
          obtain ⟨r, rfl, _, _, hr⟩ := x8 (hb 18)
          obtain ⟨_, rfl⟩ := x10 (hb 20)
          obtain ⟨_, rfl⟩ := x11 (hb 21)
          obtain ⟨_, rfl⟩ := x12 (hb 22)
          have HNEW := Lib.hid ha
          have HTD := Lib.hid ht
          have HBX := Lib.hid (hr (hb 19)).2
          clear x2 x3 x4 x5 x6 x7 x8 x10 x11 x12 ha ht hr hb HX
          have c1 := HTD.out.stg.row.cellAt (i := 1) rfl
          go_wp2_with fail
          refine (room_at HTD.out.stg.pat).mono ?_
          rintro e w' ⟨rfl, rfl⟩
          have hrl : (y.q.room : Int) ≤ (q2.room : Int) := by have := HNEW.out.room; omega
          go_wp2_with fail
          refine (awake_any _).mono ?_
          rintro e w6 ⟨rfl, bz⟩
          have HB6 := Lib.hid (HW.out.trans (bz.mono HW.out.size))
          clear c1 bz
          go_wp2_with fail
          go_ret
          exact ⟨rfl, HB6.out⟩
end Go.Proofs.Ytlemjegngnfanaa.Pl
