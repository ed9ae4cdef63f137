/- The reference's pick: Ask. (Written by bin/gen_prask.py.) -/
import Derived.Test.YtkjdagjhbjpcnaaPrA
namespace Go.Proofs.Ytkjdagjhbjpcnaa.Pk
open Go.RowKit Go.Proofs.Ytkjdagjhbjpcnaa.Oct Go.Proofs.Ytkjdagjhbjpcnaa.Mv Go.Proofs.Ytkjdagjhbjpcnaa.Tl Go.Maps
set_option linter.unusedVariables false

set_option maxRecDepth 100000 in
theorem rask_neg {w : World} {b1 c1 b2 c2 : Nat} {q : Q} (n : Int) (h0 : n < 0) :
    Calls Try.prog 27 #[rpv q b1 c1 b2 c2, .int .i64 n] w fun e w' => e = .returned (.tuple #[rpv q b1 c1 b2 c2, .int .i64 2]) ∧ Below w.heap.size w w' := by
  have hz := zero_rpick
  have B1 := box_below w (.cells (pc q (q.asked : Int) b1 c1 b2 c2) 36)
  have B2 := B1.alloc B1.size (.cells (pc q (q.asked : Int) b1 c1 b2 c2) 36)
  have HB := Lib.hid B2
  clear B1 B2
  unfold rpv
  go_enter Try.func27, Try.ntmps27
  go_wp2_with fail
  refine bodyPost_ret (v := .tuple #[rpv q b1 c1 b2 c2, .int .i64 2]) ?_ rfl ⟨rfl, HB.out⟩
  rw [results_cell_tmp rfl]
  unfold rpv
  go_simp
set_option maxRecDepth 100000 in
set_option maxHeartbeats 2000000 in
theorem rask_pos {w : World} {b1 c1 b2 c2 : Nat} {q : Q} (h : RAt w b1 c1 b2 c2 q.s) (hok : q.Ok) (m : Nat) :
    Calls Try.prog 27 #[rpv q b1 c1 b2 c2, .int .i64 (m : Int)] w fun e w' => e = .returned (.tuple #[rpv (q.ask (m : Int)).2 b1 c1 b2 c2, .int .i64 (q.ask (m : Int)).1]) ∧ Below w.heap.size w w' := by
  have hz := zero_rpick
  have ha := hok.asked
  have hr := q.room_le
  have hn' : q.s.n ≤ 4096 := hok.s.hi
  have B1 := box_below w (.cells (pc q (q.asked : Int) b1 c1 b2 c2) 36)
  have B2 := B1.alloc B1.size (.cells #[.slice none 0 0, .slice none 0 0, .int .i64 0, .int .i64 0, .int .i64 0] 36)
  have R1 := alloc_rowV w 36 (rpc q b1 c1 b2 c2)
  have R2 := alloc_rowV (w.alloc (.cells (pc q (q.asked : Int) b1 c1 b2 c2) 36)) 36 [.slice none 0 0, .slice none 0 0, .int .i64 0, .int .i64 0, .int .i64 0]
  have hs : (w.alloc (.cells (pc q (q.asked : Int) b1 c1 b2 c2) 36)).heap.size = w.heap.size + 1 := by simp
  have Z := box_below (w.alloc (.cells (pc q (q.asked : Int) b1 c1 b2 c2) 36)) (.cells #[.slice none 0 0, .slice none 0 0, .int .i64 0, .int .i64 0, .int .i64 0] 36)
  have HR1 := Lib.hid (show RowV _ w.heap.size 36 (rpc q b1 c1 b2 c2) from R1.below (by rw [hs]; omega) Z)
  rw [hs] at R2
  have HR2 := Lib.hid R2
  have HB := Lib.hid B2
  have HA := Lib.hid (h.below B2)
  have HO := Lib.hid hok
  have h0 : ¬ ((m : Int) < 0) := by omega
  clear B1 B2 R1 R2 Z h hok hs
  unfold rpv
  go_enter Try.func27, Try.ntmps27
  go_upto_region 1 with (fail)
  unfold pc at HR1 HR2 HB HA
  generalize (w.alloc (.cells #[.slice (some ⟨b1, 0, none⟩) q.s.n c1, .slice (some ⟨b2, 0, none⟩) q.s.n c2, .int .i64 (q.first : Int), .int .i64 (q.next : Int), .int .i64 (q.asked : Int)] 36)).alloc (.cells #[.slice none 0 0, .slice none 0 0, .int .i64 0, .int .i64 0, .int .i64 0] 36) = w1 at *
  go_upto_region 3 with (fail)
  by_cases h1 : (q.room : Int) - (q.asked : Int) < (m : Int)
  · skip
    have HWR := Lib.hid (show IntKind.i64.wrap ((q.room : Int) - (q.asked : Int)) = (q.room : Int) - (q.asked : Int) from IntWalk.i64_in _ (by omega))
    have HRO := Lib.hid (fun (wx : World) (hx : RAt wx b1 c1 b2 c2 q.s) => show Calls Try.prog 30 #[.agg #[.slice (some ⟨b1, 0, none⟩) q.s.n c1, .slice (some ⟨b2, 0, none⟩) q.s.n c2, .int .i64 (q.first : Int), .int .i64 (q.next : Int), .int .i64 (q.asked : Int)]] wx (fun e w' => e = .returned (.int .i64 (q.room : Int)) ∧ Below wx.heap.size wx w') from rroom_at hx HO.out)
    have HU := Lib.hid (show q.ask (m : Int) = (90, q) by unfold Q.ask; rw [if_neg h0, if_pos h1])
    refine Inv2.wp_region_inv (fun b a wy => ∃ z9 z10 z11 z12 z13 z14 z15, a = ⟨#[.agg #[.slice (some { block := b1, off := 0 }) q.s.n c1, .slice (some { block := b2, off := 0 }) q.s.n c2, .int .i64 ↑q.first, .int .i64 ↑q.next, .int .i64 ↑q.asked], .int .i64 ↑m, .pointer (some { block := w.heap.size, off := 0 }), undef, .pointer (some { block := w.heap.size + 1, off := 0 }), .int .i64 0, .int .i64 ↑m, .bool false, undef, z9, z10, z11, z12, z13, z14, z15, undef, undef, undef, undef, undef, undef, undef], []⟩ ∧ Hid ((b 0 = true → z9 = .agg #[.slice (some ⟨b1, 0, none⟩) q.s.n c1, .slice (some ⟨b2, 0, none⟩) q.s.n c2, .int .i64 (q.first : Int), .int .i64 (q.next : Int), .int .i64 (q.asked : Int)]) ∧ (b 1 = true → z10 = .int .i64 (q.room : Int)) ∧ (b 2 = true → z11 = .pointer (some ⟨w.heap.size, 4, none⟩)) ∧ (b 3 = true → z12 = .int .i64 (q.asked : Int)) ∧ (b 4 = true → z13 = .int .i64 ((q.room : Int) - (q.asked : Int))) ∧ (b 5 = true → z14 = .int .i64 ↑m) ∧ (b 6 = true → z15 = .bool true)) ∧ Hid (Below w1.heap.size w1 wy)) (by kernel_rfl) (by kernel_rfl) ?startK0 ?stepsK0 ?doneK0
    case startK0 =>
      intro b hb
      refine ⟨undef, undef, undef, undef, undef, undef, undef, rfl, Lib.hid ⟨?_, ?_, ?_, ?_, ?_, ?_, ?_⟩, Lib.hid ((show Still w1 w1.drew from ⟨rfl, rfl, rfl, rfl⟩).below _)⟩
      all_goals (intro e; first | rfl | (rw [hb _ (by decide)] at e; cases e))
    case stepsK0 =>
      refine ⟨?_, ?_, ?_, ?_, ?_, ?_, ?_, trivial⟩
      · rintro b a wy hb hd ⟨z9, z10, z11, z12, z13, z14, z15, rfl, HV, HW⟩ K hK
        obtain ⟨h0, h1, h2, h3, h4, h5, h6⟩ := HV.out
        clear hd
        have hR := HR1.out.below HR1.out.lt HW.out
        have d0 := hR.cellAt (i := 0) rfl
        have d1 := hR.cellAt (i := 1) rfl
        have d2 := hR.cellAt (i := 2) rfl
        have d3 := hR.cellAt (i := 3) rfl
        have d4 := hR.cellAt (i := 4) rfl
        clear hR
        go_simp
        exact hK _ _ ⟨_, _, _, _, _, _, _, rfl, Lib.hid ⟨fun _ => rfl, h1, h2, h3, h4, h5, h6⟩, HW⟩
      · rintro b a wy hb hd ⟨z9, z10, z11, z12, z13, z14, z15, rfl, HV, HW⟩ K hK
        obtain ⟨h0, h1, h2, h3, h4, h5, h6⟩ := HV.out
        simp [Region.binds] at hd
        obtain rfl := h0 (by simp [hd])
        clear hd
        go_simp
        go_at_call 30
        refine (HRO.out wy (HA.out.below HW.out)).mono ?_
        rintro e wz ⟨rfl, kz⟩
        try go_simp
        exact hK _ _ ⟨_, _, _, _, _, _, _, rfl, Lib.hid ⟨h0, fun _ => rfl, h2, h3, h4, h5, h6⟩, Lib.hid (HW.out.trans (kz.mono HW.out.size))⟩
      · rintro b a wy hb hd ⟨z9, z10, z11, z12, z13, z14, z15, rfl, HV, HW⟩ K hK
        obtain ⟨h0, h1, h2, h3, h4, h5, h6⟩ := HV.out
        clear hd
        go_simp
        exact hK _ _ ⟨_, _, _, _, _, _, _, rfl, Lib.hid ⟨h0, h1, fun _ => rfl, h3, h4, h5, h6⟩, HW⟩
      · rintro b a wy hb hd ⟨z9, z10, z11, z12, z13, z14, z15, rfl, HV, HW⟩ K hK
        obtain ⟨h0, h1, h2, h3, h4, h5, h6⟩ := HV.out
        simp [Region.binds] at hd
        obtain rfl := h2 (by simp [hd])
        clear hd
        have hR := HR1.out.below HR1.out.lt HW.out
        have d4 := hR.cellAt (i := 4) rfl
        clear hR
        go_simp
        exact hK _ _ ⟨_, _, _, _, _, _, _, rfl, Lib.hid ⟨h0, h1, h2, fun _ => rfl, h4, h5, h6⟩, HW⟩
      · rintro b a wy hb hd ⟨z9, z10, z11, z12, z13, z14, z15, rfl, HV, HW⟩ K hK
        obtain ⟨h0, h1, h2, h3, h4, h5, h6⟩ := HV.out
        simp [Region.binds] at hd
        obtain rfl := h1 (by simp [hd])
        obtain rfl := h3 (by simp [hd])
        clear hd
        go_simp
        exact hK _ _ ⟨_, _, _, _, _, _, _, rfl, Lib.hid ⟨h0, h1, h2, h3, fun _ => congrArg (Value.int .i64) HWR.out, h5, h6⟩, HW⟩
      · rintro b a wy hb hd ⟨z9, z10, z11, z12, z13, z14, z15, rfl, HV, HW⟩ K hK
        obtain ⟨h0, h1, h2, h3, h4, h5, h6⟩ := HV.out
        clear hd
        go_simp
        exact hK _ _ ⟨_, _, _, _, _, _, _, rfl, Lib.hid ⟨h0, h1, h2, h3, h4, fun _ => rfl, h6⟩, HW⟩
      · rintro b a wy hb hd ⟨z9, z10, z11, z12, z13, z14, z15, rfl, HV, HW⟩ K hK
        obtain ⟨h0, h1, h2, h3, h4, h5, h6⟩ := HV.out
        simp [Region.binds] at hd
        obtain rfl := h4 (by simp [hd])
        obtain rfl := h5 (by simp [hd])
        clear hd
        go_simp
        exact hK _ _ ⟨_, _, _, _, _, _, _, rfl, Lib.hid ⟨h0, h1, h2, h3, h4, h5, fun _ => rfl⟩, HW⟩
    case doneK0 =>
      rintro b a wy hb ⟨z9, z10, z11, z12, z13, z14, z15, rfl, HV, HW⟩
      obtain ⟨h0, h1, h2, h3, h4, h5, h6⟩ := HV.out
      obtain rfl := h0 (hb 0)
      obtain rfl := h1 (hb 1)
      obtain rfl := h2 (hb 2)
      obtain rfl := h3 (hb 3)
      obtain rfl := h4 (hb 4)
      obtain rfl := h5 (hb 5)
      obtain rfl := h6 (hb 6)
      clear HV hb h0 h1 h2 h3 h4 h5 h6
      have HRA := Lib.hid (HR1.out.below HR1.out.lt HW.out)
      have HRB := Lib.hid (HR2.out.below HR2.out.lt HW.out)
      have HBW := Lib.hid (HB.out.trans (HW.out.mono HB.out.size))
      clear HR1 HR2 HB HW HRO HA HO
      obtain ⟨x, hx⟩ : ∃ x, x = w.heap.size := ⟨_, rfl⟩
      obtain ⟨y, hy⟩ : ∃ y, y = w.heap.size + 1 := ⟨_, rfl⟩
      have hxy : x ≠ y := by omega
      have hxw : w.heap.size ≤ x := by omega
      have hyw : w.heap.size ≤ y := by omega
      rw [← hy] at HRB ⊢
      rw [← hx] at HRA ⊢
      clear hx hy
      have d0 := HRA.out.cellAt (i := 0) rfl
      have d1 := HRA.out.cellAt (i := 1) rfl
      have d2 := HRA.out.cellAt (i := 2) rfl
      have d3 := HRA.out.cellAt (i := 3) rfl
      have d4 := HRA.out.cellAt (i := 4) rfl
      have e0 := HRB.out.cellAt (i := 0) rfl
      have e1 := HRB.out.cellAt (i := 1) rfl
      have e2 := HRB.out.cellAt (i := 2) rfl
      have e3 := HRB.out.cellAt (i := 3) rfl
      have e4 := HRB.out.cellAt (i := 4) rfl
      have f0 := HRB.out.free 0
      have f1 := HRB.out.free 1
      have f2 := HRB.out.free 2
      have f3 := HRB.out.free 3
      have f4 := HRB.out.free 4
      have HRS := Lib.hid (((((HRB.out.set 0 (.slice (some ⟨b1, 0, none⟩) q.s.n c1)).set 1 (.slice (some ⟨b2, 0, none⟩) q.s.n c2)).set 2 (.int .i64 (q.first : Int))).set 3 (.int .i64 (q.next : Int))).set 4 (.int .i64 (q.asked : Int)))
      have HWS := Lib.hid (((((HBW.out.setCell (p := ⟨y, 0, none⟩) hyw (.slice (some ⟨b1, 0, none⟩) q.s.n c1)).setCell (p := ⟨y, 1, none⟩) hyw (.slice (some ⟨b2, 0, none⟩) q.s.n c2)).setCell (p := ⟨y, 2, none⟩) hyw (.int .i64 (q.first : Int))).setCell (p := ⟨y, 3, none⟩) hyw (.int .i64 (q.next : Int))).setCell (p := ⟨y, 4, none⟩) hyw (.int .i64 (q.asked : Int)))
      go_wp2_with fail
      refine bodyPost_ret (v := .tuple #[rpv q b1 c1 b2 c2, .int .i64 90]) ?_ rfl ⟨by rw [HU.out]; rfl, HWS.out⟩
      clear d0 d1 d2 d3 d4 e0 e1 e2 e3 e4 f0 f1 f2 f3 f4 HWS
      generalize (((((wy.setCell ⟨y, 0, none⟩ (.slice (some ⟨b1, 0, none⟩) q.s.n c1)).setCell ⟨y, 1, none⟩ (.slice (some ⟨b2, 0, none⟩) q.s.n c2)).setCell ⟨y, 2, none⟩ (.int .i64 (q.first : Int))).setCell ⟨y, 3, none⟩ (.int .i64 (q.next : Int))).setCell ⟨y, 4, none⟩ (.int .i64 (q.asked : Int))) = wv at *
      have d0 := HRS.out.cellAt (i := 0) rfl
      have d1 := HRS.out.cellAt (i := 1) rfl
      have d2 := HRS.out.cellAt (i := 2) rfl
      have d3 := HRS.out.cellAt (i := 3) rfl
      have d4 := HRS.out.cellAt (i := 4) rfl
      rw [results_cell_tmp rfl]
      unfold rpv
      go_simp
  · skip
    have HWR := Lib.hid (show IntKind.i64.wrap ((q.room : Int) - (q.asked : Int)) = (q.room : Int) - (q.asked : Int) from IntWalk.i64_in _ (by omega))
    have HRO := Lib.hid (fun (wx : World) (hx : RAt wx b1 c1 b2 c2 q.s) => show Calls Try.prog 30 #[.agg #[.slice (some ⟨b1, 0, none⟩) q.s.n c1, .slice (some ⟨b2, 0, none⟩) q.s.n c2, .int .i64 (q.first : Int), .int .i64 (q.next : Int), .int .i64 (q.asked : Int)]] wx (fun e w' => e = .returned (.int .i64 (q.room : Int)) ∧ Below wx.heap.size wx w') from rroom_at hx HO.out)
    obtain ⟨z, hzz⟩ : ∃ z : Nat, z = q.asked + m := ⟨_, rfl⟩
    have HU := Lib.hid (show q.ask (m : Int) = (0, ⟨q.s, q.first, q.next, z⟩) by unfold Q.ask; rw [if_neg h0, if_neg h1, Int.toNat_natCast, hzz])
    have hzi : (q.asked : Int) + (m : Int) = (z : Int) := by omega
    have hzn : z ≤ q.s.n := by omega
    clear hzz
    refine Inv2.wp_region_inv (fun b a wy => ∃ z9 z10 z11 z12 z13 z14 z15, a = ⟨#[.agg #[.slice (some { block := b1, off := 0 }) q.s.n c1, .slice (some { block := b2, off := 0 }) q.s.n c2, .int .i64 ↑q.first, .int .i64 ↑q.next, .int .i64 ↑q.asked], .int .i64 ↑m, .pointer (some { block := w.heap.size, off := 0 }), undef, .pointer (some { block := w.heap.size + 1, off := 0 }), .int .i64 0, .int .i64 ↑m, .bool false, undef, z9, z10, z11, z12, z13, z14, z15, undef, undef, undef, undef, undef, undef, undef], []⟩ ∧ Hid ((b 0 = true → z9 = .agg #[.slice (some ⟨b1, 0, none⟩) q.s.n c1, .slice (some ⟨b2, 0, none⟩) q.s.n c2, .int .i64 (q.first : Int), .int .i64 (q.next : Int), .int .i64 (q.asked : Int)]) ∧ (b 1 = true → z10 = .int .i64 (q.room : Int)) ∧ (b 2 = true → z11 = .pointer (some ⟨w.heap.size, 4, none⟩)) ∧ (b 3 = true → z12 = .int .i64 (q.asked : Int)) ∧ (b 4 = true → z13 = .int .i64 ((q.room : Int) - (q.asked : Int))) ∧ (b 5 = true → z14 = .int .i64 ↑m) ∧ (b 6 = true → z15 = .bool false)) ∧ Hid (Below w1.heap.size w1 wy)) (by kernel_rfl) (by kernel_rfl) ?startK1 ?stepsK1 ?doneK1
    case startK1 =>
      intro b hb
      refine ⟨undef, undef, undef, undef, undef, undef, undef, rfl, Lib.hid ⟨?_, ?_, ?_, ?_, ?_, ?_, ?_⟩, Lib.hid ((show Still w1 w1.drew from ⟨rfl, rfl, rfl, rfl⟩).below _)⟩
      all_goals (intro e; first | rfl | (rw [hb _ (by decide)] at e; cases e))
    case stepsK1 =>
      refine ⟨?_, ?_, ?_, ?_, ?_, ?_, ?_, trivial⟩
      · rintro b a wy hb hd ⟨z9, z10, z11, z12, z13, z14, z15, rfl, HV, HW⟩ K hK
        obtain ⟨h0, h1, h2, h3, h4, h5, h6⟩ := HV.out
        clear hd
        have hR := HR1.out.below HR1.out.lt HW.out
        have d0 := hR.cellAt (i := 0) rfl
        have d1 := hR.cellAt (i := 1) rfl
        have d2 := hR.cellAt (i := 2) rfl
        have d3 := hR.cellAt (i := 3) rfl
        have d4 := hR.cellAt (i := 4) rfl
        clear hR
        go_simp
        exact hK _ _ ⟨_, _, _, _, _, _, _, rfl, Lib.hid ⟨fun _ => rfl, h1, h2, h3, h4, h5, h6⟩, HW⟩
      · rintro b a wy hb hd ⟨z9, z10, z11, z12, z13, z14, z15, rfl, HV, HW⟩ K hK
        obtain ⟨h0, h1, h2, h3, h4, h5, h6⟩ := HV.out
        simp [Region.binds] at hd
        obtain rfl := h0 (by simp [hd])
        clear hd
        go_simp
        go_at_call 30
        refine (HRO.out wy (HA.out.below HW.out)).mono ?_
        rintro e wz ⟨rfl, kz⟩
        try go_simp
        exact hK _ _ ⟨_, _, _, _, _, _, _, rfl, Lib.hid ⟨h0, fun _ => rfl, h2, h3, h4, h5, h6⟩, Lib.hid (HW.out.trans (kz.mono HW.out.size))⟩
      · rintro b a wy hb hd ⟨z9, z10, z11, z12, z13, z14, z15, rfl, HV, HW⟩ K hK
        obtain ⟨h0, h1, h2, h3, h4, h5, h6⟩ := HV.out
        clear hd
        go_simp
        exact hK _ _ ⟨_, _, _, _, _, _, _, rfl, Lib.hid ⟨h0, h1, fun _ => rfl, h3, h4, h5, h6⟩, HW⟩
      · rintro b a wy hb hd ⟨z9, z10, z11, z12, z13, z14, z15, rfl, HV, HW⟩ K hK
        obtain ⟨h0, h1, h2, h3, h4, h5, h6⟩ := HV.out
        simp [Region.binds] at hd
        obtain rfl := h2 (by simp [hd])
        clear hd
        have hR := HR1.out.below HR1.out.lt HW.out
        have d4 := hR.cellAt (i := 4) rfl
        clear hR
        go_simp
        exact hK _ _ ⟨_, _, _, _, _, _, _, rfl, Lib.hid ⟨h0, h1, h2, fun _ => rfl, h4, h5, h6⟩, HW⟩
      · rintro b a wy hb hd ⟨z9, z10, z11, z12, z13, z14, z15, rfl, HV, HW⟩ K hK
        obtain ⟨h0, h1, h2, h3, h4, h5, h6⟩ := HV.out
        simp [Region.binds] at hd
        obtain rfl := h1 (by simp [hd])
        obtain rfl := h3 (by simp [hd])
        clear hd
        go_simp
        exact hK _ _ ⟨_, _, _, _, _, _, _, rfl, Lib.hid ⟨h0, h1, h2, h3, fun _ => congrArg (Value.int .i64) HWR.out, h5, h6⟩, HW⟩
      · rintro b a wy hb hd ⟨z9, z10, z11, z12, z13, z14, z15, rfl, HV, HW⟩ K hK
        obtain ⟨h0, h1, h2, h3, h4, h5, h6⟩ := HV.out
        clear hd
        go_simp
        exact hK _ _ ⟨_, _, _, _, _, _, _, rfl, Lib.hid ⟨h0, h1, h2, h3, h4, fun _ => rfl, h6⟩, HW⟩
      · rintro b a wy hb hd ⟨z9, z10, z11, z12, z13, z14, z15, rfl, HV, HW⟩ K hK
        obtain ⟨h0, h1, h2, h3, h4, h5, h6⟩ := HV.out
        simp [Region.binds] at hd
        obtain rfl := h4 (by simp [hd])
        obtain rfl := h5 (by simp [hd])
        clear hd
        go_simp
        exact hK _ _ ⟨_, _, _, _, _, _, _, rfl, Lib.hid ⟨h0, h1, h2, h3, h4, h5, fun _ => rfl⟩, HW⟩
    case doneK1 =>
      rintro b a wy hb ⟨z9, z10, z11, z12, z13, z14, z15, rfl, HV, HW⟩
      obtain ⟨h0, h1, h2, h3, h4, h5, h6⟩ := HV.out
      obtain rfl := h0 (hb 0)
      obtain rfl := h1 (hb 1)
      obtain rfl := h2 (hb 2)
      obtain rfl := h3 (hb 3)
      obtain rfl := h4 (hb 4)
      obtain rfl := h5 (hb 5)
      obtain rfl := h6 (hb 6)
      clear HV hb h0 h1 h2 h3 h4 h5 h6
      have HRA := Lib.hid (HR1.out.below HR1.out.lt HW.out)
      have HRB := Lib.hid (HR2.out.below HR2.out.lt HW.out)
      have HBW := Lib.hid (HB.out.trans (HW.out.mono HB.out.size))
      clear HR1 HR2 HB HW HRO HA HO
      obtain ⟨x, hx⟩ : ∃ x, x = w.heap.size := ⟨_, rfl⟩
      obtain ⟨y, hy⟩ : ∃ y, y = w.heap.size + 1 := ⟨_, rfl⟩
      have hxy : x ≠ y := by omega
      have hxw : w.heap.size ≤ x := by omega
      have hyw : w.heap.size ≤ y := by omega
      rw [← hy] at HRB ⊢
      rw [← hx] at HRA ⊢
      clear hx hy
      have d0 := HRA.out.cellAt (i := 0) rfl
      have d1 := HRA.out.cellAt (i := 1) rfl
      have d2 := HRA.out.cellAt (i := 2) rfl
      have d3 := HRA.out.cellAt (i := 3) rfl
      have d4 := HRA.out.cellAt (i := 4) rfl
      have e0 := HRB.out.cellAt (i := 0) rfl
      have e1 := HRB.out.cellAt (i := 1) rfl
      have e2 := HRB.out.cellAt (i := 2) rfl
      have e3 := HRB.out.cellAt (i := 3) rfl
      have e4 := HRB.out.cellAt (i := 4) rfl
      have f0 := HRB.out.free 0
      have f1 := HRB.out.free 1
      have f2 := HRB.out.free 2
      have f3 := HRB.out.free 3
      have f4 := HRB.out.free 4
      have f5 := HRA.out.free 4
      go_upto_region 6 with (fail)
      have HRA2 := Lib.hid (show RowV (wy.setCell ⟨x, 4, none⟩ (.int .i64 (z : Int))) x 36 (rpc ⟨q.s, q.first, q.next, z⟩ b1 c1 b2 c2) from HRA.out.set 4 _)
      have HRB2 := Lib.hid (HRB.out.other (q := x) (i := 4) (v := .int .i64 (z : Int)) (fun e => hxy e.symm))
      have HBW2 := Lib.hid (HBW.out.setCell (p := ⟨x, 4, none⟩) hxw (.int .i64 (z : Int)))
      clear d0 d1 d2 d3 d4 e0 e1 e2 e3 e4 f0 f1 f2 f3 f4 f5 HRA HRB HBW
      generalize wy.setCell ⟨x, 4, none⟩ (.int .i64 (z : Int)) = wz at *
      have d0 := HRA2.out.cellAt (i := 0) rfl
      have d1 := HRA2.out.cellAt (i := 1) rfl
      have d2 := HRA2.out.cellAt (i := 2) rfl
      have d3 := HRA2.out.cellAt (i := 3) rfl
      have d4 := HRA2.out.cellAt (i := 4) rfl
      have e0 := HRB2.out.cellAt (i := 0) rfl
      have e1 := HRB2.out.cellAt (i := 1) rfl
      have e2 := HRB2.out.cellAt (i := 2) rfl
      have e3 := HRB2.out.cellAt (i := 3) rfl
      have e4 := HRB2.out.cellAt (i := 4) rfl
      have f0 := HRB2.out.free 0
      have f1 := HRB2.out.free 1
      have f2 := HRB2.out.free 2
      have f3 := HRB2.out.free 3
      have f4 := HRB2.out.free 4
      have HRS := Lib.hid (((((HRB2.out.set 0 (.slice (some ⟨b1, 0, none⟩) q.s.n c1)).set 1 (.slice (some ⟨b2, 0, none⟩) q.s.n c2)).set 2 (.int .i64 (q.first : Int))).set 3 (.int .i64 (q.next : Int))).set 4 (.int .i64 (z : Int)))
      have HWS := Lib.hid (((((HBW2.out.setCell (p := ⟨y, 0, none⟩) hyw (.slice (some ⟨b1, 0, none⟩) q.s.n c1)).setCell (p := ⟨y, 1, none⟩) hyw (.slice (some ⟨b2, 0, none⟩) q.s.n c2)).setCell (p := ⟨y, 2, none⟩) hyw (.int .i64 (q.first : Int))).setCell (p := ⟨y, 3, none⟩) hyw (.int .i64 (q.next : Int))).setCell (p := ⟨y, 4, none⟩) hyw (.int .i64 (z : Int)))
      go_wp2_with fail
      refine bodyPost_ret (v := .tuple #[rpv ⟨q.s, q.first, q.next, z⟩ b1 c1 b2 c2, .int .i64 0]) ?_ rfl ⟨by rw [HU.out]; rfl, HWS.out⟩
      clear d0 d1 d2 d3 d4 e0 e1 e2 e3 e4 f0 f1 f2 f3 f4 HWS
      generalize (((((wz.setCell ⟨y, 0, none⟩ (.slice (some ⟨b1, 0, none⟩) q.s.n c1)).setCell ⟨y, 1, none⟩ (.slice (some ⟨b2, 0, none⟩) q.s.n c2)).setCell ⟨y, 2, none⟩ (.int .i64 (q.first : Int))).setCell ⟨y, 3, none⟩ (.int .i64 (q.next : Int))).setCell ⟨y, 4, none⟩ (.int .i64 (z : Int))) = wv at *
      have d0 := HRS.out.cellAt (i := 0) rfl
      have d1 := HRS.out.cellAt (i := 1) rfl
      have d2 := HRS.out.cellAt (i := 2) rfl
      have d3 := HRS.out.cellAt (i := 3) rfl
      have d4 := HRS.out.cellAt (i := 4) rfl
      rw [results_cell_tmp rfl]
      unfold rpv
      go_simp
theorem rask_at {w : World} {b1 c1 b2 c2 : Nat} {q : Q} (h : RAt w b1 c1 b2 c2 q.s) (hok : q.Ok) (n : Int) :
    Calls Try.prog 27 #[rpv q b1 c1 b2 c2, .int .i64 n] w fun e w' => e = .returned (.tuple #[rpv (q.ask n).2 b1 c1 b2 c2, .int .i64 (q.ask n).1]) ∧ Below w.heap.size w w' := by
  by_cases h0 : n < 0
  · rw [show q.ask n = (2, q) by unfold Q.ask; rw [if_pos h0]]
    exact rask_neg n h0
  · obtain ⟨m, rfl⟩ : ∃ m : Nat, n = (m : Int) := ⟨n.toNat, by omega⟩
    exact rask_pos h hok m
end Go.Proofs.Ytkjdagjhbjpcnaa.Pk
