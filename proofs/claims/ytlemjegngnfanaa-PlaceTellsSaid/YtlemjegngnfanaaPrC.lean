/- The reference's pick: Take. (Written by bin/gen_prtake.py.) -/
import Derived.Test.YtlemjegngnfanaaPrB
import Derived.Deep.LoopGhost
namespace Go.Proofs.Ytlemjegngnfanaa.Pk
open Go.RowKit Go.Proofs.Ytlemjegngnfanaa.Oct Go.Proofs.Ytlemjegngnfanaa.Mv Go.Proofs.Ytlemjegngnfanaa.Tl Go.Maps
set_option linter.unusedVariables false

theorem RAt.off {w : World} {b1 c1 b2 c2 : Nat} {s : St} (h : RAt w b1 c1 b2 c2 s) {g : Nat} (h1 : b1 ≠ g) (h2 : b2 ≠ g) (i : Nat) (v : Value) : RAt (w.setCell ⟨g, i, none⟩ v) b1 c1 b2 c2 s :=
  ⟨h.now.block (heap_setCell_other _ _ _ _ h1), h.kept.block (heap_setCell_other _ _ _ _ h2), h.ok⟩
set_option maxRecDepth 100000 in
set_option maxHeartbeats 1000000 in
theorem rtake_no {w : World} {b1 c1 b2 c2 : Nat} {q : Q} (h : RAt w b1 c1 b2 c2 q.s) (hok : q.Ok) (hroom : q.room = 0) :
    Calls Try.prog 16 #[rpv q b1 c1 b2 c2] w fun e w' => e = .returned (.tuple #[rpv q b1 c1 b2 c2, .int .i64 0, .int .i64 90]) ∧ Below w.heap.size w w' := by
  have hz := zero_rpick
  have hn' : q.s.n ≤ 4096 := hok.s.hi
  have B1 := box_below w (.cells (pc q (q.asked : Int) b1 c1 b2 c2) 37)
  have B2 := B1.alloc B1.size (.cells #[.slice none 0 0, .slice none 0 0, .int .i64 0, .int .i64 0, .int .i64 0] 37)
  have R1 := alloc_rowV w 37 (rpc q b1 c1 b2 c2)
  have R2 := alloc_rowV (w.alloc (.cells (pc q (q.asked : Int) b1 c1 b2 c2) 37)) 37 [.slice none 0 0, .slice none 0 0, .int .i64 0, .int .i64 0, .int .i64 0]
  have hs : (w.alloc (.cells (pc q (q.asked : Int) b1 c1 b2 c2) 37)).heap.size = w.heap.size + 1 := by simp
  have Z := box_below (w.alloc (.cells (pc q (q.asked : Int) b1 c1 b2 c2) 37)) (.cells #[.slice none 0 0, .slice none 0 0, .int .i64 0, .int .i64 0, .int .i64 0] 37)
  have HR1 := Lib.hid (show RowV _ w.heap.size 37 (rpc q b1 c1 b2 c2) from R1.below (by rw [hs]; omega) Z)
  rw [hs] at R2
  have HR2 := Lib.hid R2
  have HB := Lib.hid B2
  have HA := Lib.hid (h.below B2)
  have HO := Lib.hid hok
  clear B1 B2 R1 R2 Z h hok hs
  have HRO := Lib.hid (fun (wx : World) (hx : RAt wx b1 c1 b2 c2 q.s) => show Calls Try.prog 41 #[.agg #[.slice (some ⟨b1, 0, none⟩) q.s.n c1, .slice (some ⟨b2, 0, none⟩) q.s.n c2, .int .i64 (q.first : Int), .int .i64 (q.next : Int), .int .i64 (q.asked : Int)]] wx (fun e w' => e = .returned (.int .i64 (q.room : Int)) ∧ Below wx.heap.size wx w') from rroom_at hx HO.out)
  unfold rpv
  go_enter Try.func16, Try.ntmps16
  go_upto_region 1 with (fail)
  unfold pc at HR1 HR2 HB HA
  generalize (w.alloc (.cells #[.slice (some ⟨b1, 0, none⟩) q.s.n c1, .slice (some ⟨b2, 0, none⟩) q.s.n c2, .int .i64 (q.first : Int), .int .i64 (q.next : Int), .int .i64 (q.asked : Int)] 37)).alloc (.cells #[.slice none 0 0, .slice none 0 0, .int .i64 0, .int .i64 0, .int .i64 0] 37) = w1 at *
  obtain ⟨x, hx⟩ : ∃ x, x = w.heap.size := ⟨_, rfl⟩
  obtain ⟨y, hy⟩ : ∃ y, y = w.heap.size + 1 := ⟨_, rfl⟩
  have hxy : x ≠ y := by omega
  have hxw : w.heap.size ≤ x := by omega
  have hyw : w.heap.size ≤ y := by omega
  rw [← hy] at HR2 ⊢
  rw [← hx] at HR1 ⊢
  clear hx hy
  have d0 := HR1.out.cellAt (i := 0) rfl
  have d1 := HR1.out.cellAt (i := 1) rfl
  have d2 := HR1.out.cellAt (i := 2) rfl
  have d3 := HR1.out.cellAt (i := 3) rfl
  have d4 := HR1.out.cellAt (i := 4) rfl
  go_wp2_with fail
  refine (HRO.out _ HA.out).mono ?_
  rintro e w2 ⟨rfl, bz⟩
  have HA2 := Lib.hid (HA.out.below bz)
  have HX2 := Lib.hid (HR1.out.below HR1.out.lt bz)
  have HY2 := Lib.hid (HR2.out.below HR2.out.lt bz)
  have HB2 := Lib.hid (HB.out.trans (bz.mono HB.out.size))
  clear bz HA HR1 HR2 HB HRO d0 d1 d2 d3 d4
  rw [hroom]
  have d0 := HX2.out.cellAt (i := 0) rfl
  have d1 := HX2.out.cellAt (i := 1) rfl
  have d2 := HX2.out.cellAt (i := 2) rfl
  have d3 := HX2.out.cellAt (i := 3) rfl
  have d4 := HX2.out.cellAt (i := 4) rfl
  have e0 := HY2.out.cellAt (i := 0) rfl
  have e1 := HY2.out.cellAt (i := 1) rfl
  have e2 := HY2.out.cellAt (i := 2) rfl
  have e3 := HY2.out.cellAt (i := 3) rfl
  have e4 := HY2.out.cellAt (i := 4) rfl
  have f0 := HY2.out.free 0
  have f1 := HY2.out.free 1
  have f2 := HY2.out.free 2
  have f3 := HY2.out.free 3
  have f4 := HY2.out.free 4
  have HRS := Lib.hid (((((HY2.out.set 0 (.slice (some ⟨b1, 0, none⟩) q.s.n c1)).set 1 (.slice (some ⟨b2, 0, none⟩) q.s.n c2)).set 2 (.int .i64 (q.first : Int))).set 3 (.int .i64 (q.next : Int))).set 4 (.int .i64 (q.asked : Int)))
  have HWS := Lib.hid (((((HB2.out.setCell (p := ⟨y, 0, none⟩) hyw (.slice (some ⟨b1, 0, none⟩) q.s.n c1)).setCell (p := ⟨y, 1, none⟩) hyw (.slice (some ⟨b2, 0, none⟩) q.s.n c2)).setCell (p := ⟨y, 2, none⟩) hyw (.int .i64 (q.first : Int))).setCell (p := ⟨y, 3, none⟩) hyw (.int .i64 (q.next : Int))).setCell (p := ⟨y, 4, none⟩) hyw (.int .i64 (q.asked : Int)))
  go_wp2_with fail
  refine bodyPost_ret (v := .tuple #[rpv q b1 c1 b2 c2, .int .i64 0, .int .i64 90]) ?_ rfl (⟨rfl, HWS.out⟩)
  clear d0 e0 f0 d1 e1 f1 d2 e2 f2 d3 e3 f3 d4 e4 f4
  generalize (((((w2.setCell ⟨y, 0, none⟩ (.slice (some ⟨b1, 0, none⟩) q.s.n c1)).setCell ⟨y, 1, none⟩ (.slice (some ⟨b2, 0, none⟩) q.s.n c2)).setCell ⟨y, 2, none⟩ (.int .i64 (q.first : Int))).setCell ⟨y, 3, none⟩ (.int .i64 (q.next : Int))).setCell ⟨y, 4, none⟩ (.int .i64 (q.asked : Int))) = wv at *
  have d0 := HRS.out.cellAt (i := 0) rfl
  have d1 := HRS.out.cellAt (i := 1) rfl
  have d2 := HRS.out.cellAt (i := 2) rfl
  have d3 := HRS.out.cellAt (i := 3) rfl
  have d4 := HRS.out.cellAt (i := 4) rfl
  rw [results_cell_three rfl]
  try unfold rpv
  go_simp
set_option maxRecDepth 100000 in
set_option maxHeartbeats 4000000 in
theorem rtake_yes {w : World} {b1 c1 b2 c2 : Nat} {q : Q} (h : RAt w b1 c1 b2 c2 q.s) (hok : q.Ok) (hroom : 0 < q.room) :
    Calls Try.prog 16 #[rpv q b1 c1 b2 c2] w fun e w' => ∃ b k1 l1, e = .returned (.tuple #[rpv (q.took b) k1 l1 b2 c2, .int .i64 ((b : Nat) : Int), .int .i64 0]) ∧ q.Found b ∧ RAt w' k1 l1 b2 c2 (q.took b).s ∧ Below w.heap.size w w' := by
  have hz := zero_rpick
  have hn' : q.s.n ≤ 4096 := hok.s.hi
  have B1 := box_below w (.cells (pc q (q.asked : Int) b1 c1 b2 c2) 37)
  have B2 := B1.alloc B1.size (.cells #[.slice none 0 0, .slice none 0 0, .int .i64 0, .int .i64 0, .int .i64 0] 37)
  have R1 := alloc_rowV w 37 (rpc q b1 c1 b2 c2)
  have R2 := alloc_rowV (w.alloc (.cells (pc q (q.asked : Int) b1 c1 b2 c2) 37)) 37 [.slice none 0 0, .slice none 0 0, .int .i64 0, .int .i64 0, .int .i64 0]
  have hs : (w.alloc (.cells (pc q (q.asked : Int) b1 c1 b2 c2) 37)).heap.size = w.heap.size + 1 := by simp
  have Z := box_below (w.alloc (.cells (pc q (q.asked : Int) b1 c1 b2 c2) 37)) (.cells #[.slice none 0 0, .slice none 0 0, .int .i64 0, .int .i64 0, .int .i64 0] 37)
  have HR1 := Lib.hid (show RowV _ w.heap.size 37 (rpc q b1 c1 b2 c2) from R1.below (by rw [hs]; omega) Z)
  rw [hs] at R2
  have HR2 := Lib.hid R2
  have HB := Lib.hid B2
  have HA := Lib.hid (h.below B2)
  have HO := Lib.hid hok
  clear B1 B2 R1 R2 Z h hok hs
  have HRO := Lib.hid (fun (wx : World) (hx : RAt wx b1 c1 b2 c2 q.s) => show Calls Try.prog 41 #[.agg #[.slice (some ⟨b1, 0, none⟩) q.s.n c1, .slice (some ⟨b2, 0, none⟩) q.s.n c2, .int .i64 (q.first : Int), .int .i64 (q.next : Int), .int .i64 (q.asked : Int)]] wx (fun e w' => e = .returned (.int .i64 (q.room : Int)) ∧ Below wx.heap.size wx w') from rroom_at hx HO.out)
  unfold rpv
  go_enter Try.func16, Try.ntmps16
  go_upto_region 1 with (fail)
  unfold pc at HR1 HR2 HB HA
  generalize (w.alloc (.cells #[.slice (some ⟨b1, 0, none⟩) q.s.n c1, .slice (some ⟨b2, 0, none⟩) q.s.n c2, .int .i64 (q.first : Int), .int .i64 (q.next : Int), .int .i64 (q.asked : Int)] 37)).alloc (.cells #[.slice none 0 0, .slice none 0 0, .int .i64 0, .int .i64 0, .int .i64 0] 37) = w1 at *
  obtain ⟨x, hx⟩ : ∃ x, x = w.heap.size := ⟨_, rfl⟩
  obtain ⟨y, hy⟩ : ∃ y, y = w.heap.size + 1 := ⟨_, rfl⟩
  have hxy : x ≠ y := by omega
  have hxw : w.heap.size ≤ x := by omega
  have hyw : w.heap.size ≤ y := by omega
  rw [← hy] at HR2 ⊢
  rw [← hx] at HR1 ⊢
  clear hx hy
  have d0 := HR1.out.cellAt (i := 0) rfl
  have d1 := HR1.out.cellAt (i := 1) rfl
  have d2 := HR1.out.cellAt (i := 2) rfl
  have d3 := HR1.out.cellAt (i := 3) rfl
  have d4 := HR1.out.cellAt (i := 4) rfl
  go_wp2_with fail
  refine (HRO.out _ HA.out).mono ?_
  rintro e w2 ⟨rfl, bz⟩
  have HA2 := Lib.hid (HA.out.below bz)
  have HX2 := Lib.hid (HR1.out.below HR1.out.lt bz)
  have HY2 := Lib.hid (HR2.out.below HR2.out.lt bz)
  have HB2 := Lib.hid (HB.out.trans (bz.mono HB.out.size))
  clear bz HA HR1 HR2 HB HRO d0 d1 d2 d3 d4
  have hr0 : ¬ ((q.room : Int) = 0) := by omega
  have hrb : ((q.room : Int) == 0) = false := by rw [beq_eq_false_iff_ne]; exact hr0
  have HNN := Lib.hid (show ¬ q.None from fun e => by have := (room_zero HO.out).2 e; omega)
  have hfi := HO.out.first
  have hle := HO.out.le
  have hnn : q.next < q.s.n := by
    rcases HO.out.next with e | e
    · exact e
    · by_cases e2 : q.next < q.s.n
      · exact e2
      · have : q.room = 0 := (room_zero HO.out).2 ⟨fun j a b => absurd a (by show ¬ q.next ≤ j; omega), fun j a b => absurd a (by show ¬ q.first ≤ j; have : j < q.next := b; omega)⟩
        omega
  clear hroom
  have d0 := HX2.out.cellAt (i := 0) rfl
  have d1 := HX2.out.cellAt (i := 1) rfl
  have d2 := HX2.out.cellAt (i := 2) rfl
  have d3 := HX2.out.cellAt (i := 3) rfl
  have d4 := HX2.out.cellAt (i := 4) rfl
  have e0 := HY2.out.cellAt (i := 0) rfl
  have e1 := HY2.out.cellAt (i := 1) rfl
  have e2 := HY2.out.cellAt (i := 2) rfl
  have e3 := HY2.out.cellAt (i := 3) rfl
  have e4 := HY2.out.cellAt (i := 4) rfl
  have f0 := HY2.out.free 0
  have f1 := HY2.out.free 1
  have f2 := HY2.out.free 2
  have f3 := HY2.out.free 3
  have f4 := HY2.out.free 4
  go_upto_region 3 with (fail)
  go_wp2_with fail
  clear hr0 hrb d0 e0 f0 d1 e1 f1 d2 e2 f2 d3 e3 f3 d4 e4 f4
  go_loopg [5] q.s.n (fun g s5 wx => ∃ b : Nat, s5 = .int .i64 (b : Int) ∧ b < q.s.n ∧ ((q.next ≤ b ∧ Hid (q.full 0 b) ∧ g + b = q.s.n + q.next) ∨ (Hid (q.full 0 q.s.n) ∧ q.first ≤ b ∧ b < q.next ∧ Hid (q.full 1 b) ∧ g + b = q.next)) ∧ Hid (Below w2.heap.size w2 wx))
  case atStart => exact ⟨q.next, rfl, hnn, .inl ⟨Nat.le_refl _, fun j h1 h2 => absurd h1 (by show ¬ q.next ≤ j; omega), by omega⟩, Lib.hid (Below.refl _ _)⟩
  case round =>
    obtain ⟨b, rfl, hbn, hph, HBL⟩ := hrel
    have HPH := Lib.hid hph
    clear hph
    have HA3 := Lib.hid (HA2.out.below HBL.out)
    have HX3 := Lib.hid (HX2.out.below HX2.out.lt HBL.out)
    have HY3 := Lib.hid (HY2.out.below HY2.out.lt HBL.out)
    have HB3 := Lib.hid (HB2.out.trans (HBL.out.mono HB2.out.size))
    have hbi : ¬ ((b : Int) = (q.s.n : Int)) := by omega
    have HF := Lib.hid (rfree_at HA3.out b hbn)
    have d0 := HX3.out.cellAt (i := 0) rfl
    have d1 := HX3.out.cellAt (i := 1) rfl
    have d2 := HX3.out.cellAt (i := 2) rfl
    have d3 := HX3.out.cellAt (i := 3) rfl
    have d4 := HX3.out.cellAt (i := 4) rfl
    have e0 := HY3.out.cellAt (i := 0) rfl
    have e1 := HY3.out.cellAt (i := 1) rfl
    have e2 := HY3.out.cellAt (i := 2) rfl
    have e3 := HY3.out.cellAt (i := 3) rfl
    have e4 := HY3.out.cellAt (i := 4) rfl
    have f0 := HY3.out.free 0
    have f1 := HY3.out.free 1
    have f2 := HY3.out.free 2
    have f3 := HY3.out.free 3
    have f4 := HY3.out.free 4
    cases hfr : q.s.free b
    · rw [hfr] at HF
      have HFR := Lib.hid hfr
      clear hfr
      go_wp2_with fail
      refine HF.out.mono ?_
      rintro e w4 ⟨rfl, bz⟩
      have HX4 := Lib.hid (HX3.out.below HX3.out.lt bz)
      have HBL4 := Lib.hid (HBL.out.trans (bz.mono HBL.out.size))
      clear bz d0 e0 f0 d1 e1 f1 d2 e2 f2 d3 e3 f3 d4 e4 f4
      have d0 := HX4.out.cellAt (i := 0) rfl
      have d1 := HX4.out.cellAt (i := 1) rfl
      have d2 := HX4.out.cellAt (i := 2) rfl
      have d3 := HX4.out.cellAt (i := 3) rfl
      have d4 := HX4.out.cellAt (i := 4) rfl
      by_cases hlast : b + 1 = q.s.n
      · have hli : (q.s.n : Int) ≤ (b : Int) + 1 := by omega
        go_wp2_with fail
        have hph := HPH.out
        go_roundg (q.next - q.first)
        case measure =>
          rcases hph with ⟨p1, p2, p3⟩ | ⟨p1, p2, p3, p4, p5⟩ <;> omega
        case rel =>
          rcases hph with ⟨p1, p2, p3⟩ | ⟨p1, p2, p3, p4, p5⟩
          · have hfull : q.full 0 q.s.n := fun j h1 h2 => by
              by_cases e : j = b
              · subst e; exact HFR.out
              · exact p2.out j h1 (by omega)
            have hfn : q.first < q.next := by
              by_cases e : q.first < q.next
              · exact e
              · exact (HNN.out ⟨hfull, fun j h1 h2 => absurd h1 (by show ¬ q.first ≤ j; omega)⟩).elim
            exact ⟨q.first, rfl, by omega, .inr ⟨hfull, Nat.le_refl _, hfn, fun j h1 h2 => absurd h1 (by show ¬ q.first ≤ j; omega), by omega⟩, HBL4⟩
          · omega
      · have hli : ¬ ((q.s.n : Int) ≤ (b : Int) + 1) := by omega
        go_wp2_with fail
        have hph := HPH.out
        go_roundg (gk - 1)
        case measure =>
          rcases hph with ⟨p1, p2, p3⟩ | ⟨p1, p2, p3, p4, p5⟩ <;> omega
        case rel =>
          refine ⟨b + 1, by go_num, by omega, ?_, HBL4⟩
          rcases hph with ⟨p1, p2, p3⟩ | ⟨p1, p2, p3, p4, p5⟩
          · refine .inl ⟨by omega, fun j h1 h2 => ?_, by omega⟩
            by_cases e : j = b
            · subst e; exact HFR.out
            · exact p2.out j h1 (by omega)
          · have hfull : q.full 1 (b + 1) := fun j h1 h2 => by
              by_cases e : j = b
              · subst e; exact HFR.out
              · exact p4.out j h1 (by omega)
            have hbx : b + 1 < q.next := by
              by_cases e : b + 1 < q.next
              · exact e
              · exact (HNN.out ⟨p1.out, by rw [show q.next = b + 1 by omega]; exact hfull⟩).elim
            exact .inr ⟨p1, by omega, hbx, hfull, by omega⟩
    · rw [hfr] at HF
      have HFO := Lib.hid (show q.Found b from by
        rcases HPH.out with ⟨p1, p2, p3⟩ | ⟨p1, p2, p3, p4, p5⟩
        · exact ⟨hbn, hfr, .inl ⟨p1, p2.out⟩⟩
        · exact ⟨hbn, hfr, .inr ⟨p1.out, p2, p3, p4.out⟩⟩)
      have HUP := Lib.hid (up_free hbn hfr)
      clear hfr HPH
      go_wp2_with fail
      refine HF.out.mono ?_
      rintro e w4 ⟨rfl, bz⟩
      have HA4 := Lib.hid (HA3.out.below bz)
      have HX4 := Lib.hid (HX3.out.below HX3.out.lt bz)
      have HY4 := Lib.hid (HY3.out.below HY3.out.lt bz)
      have HB4 := Lib.hid (HB3.out.trans (bz.mono HB3.out.size))
      clear bz HA3 HX3 HY3 HB3 HBL HF d0 e0 f0 d1 e1 f1 d2 e2 f2 d3 e3 f3 d4 e4 f4
      have d0 := HX4.out.cellAt (i := 0) rfl
      have d1 := HX4.out.cellAt (i := 1) rfl
      have d2 := HX4.out.cellAt (i := 2) rfl
      have d3 := HX4.out.cellAt (i := 3) rfl
      have d4 := HX4.out.cellAt (i := 4) rfl
      have e0 := HY4.out.cellAt (i := 0) rfl
      have e1 := HY4.out.cellAt (i := 1) rfl
      have e2 := HY4.out.cellAt (i := 2) rfl
      have e3 := HY4.out.cellAt (i := 3) rfl
      have e4 := HY4.out.cellAt (i := 4) rfl
      have f0 := HY4.out.free 0
      have f1 := HY4.out.free 1
      have f2 := HY4.out.free 2
      have f3 := HY4.out.free 3
      have f4 := HY4.out.free 4
      have HAD := Lib.hid (show Calls Try.prog 18 #[.agg #[.slice (some ⟨b1, 0, none⟩) q.s.n c1, .slice (some ⟨b2, 0, none⟩) q.s.n c2], .int .i64 (b : Int), .int .i64 1] w4 (fun e w' => ∃ k1 l1, e = .returned (.tuple #[.agg #[.slice (some ⟨k1, 0, none⟩) q.s.n l1, .slice (some ⟨b2, 0, none⟩) q.s.n c2], .int .i64 0]) ∧ RAt w' k1 l1 b2 c2 (q.s.put b (q.s.cnt b + 1)) ∧ Below w4.heap.size w4 w') by
        have := radd_up HA4.out (b : Int)
        rw [HUP.out] at this
        exact this)
      go_upto_region 8 with (fail)
      go_wp2_with fail
      refine HAD.out.mono ?_
      rintro e w5 ⟨k1, l1, rfl, az, bz⟩
      have HA5 := Lib.hid az
      have HX5 := Lib.hid (HX4.out.below HX4.out.lt bz)
      have HY5 := Lib.hid (HY4.out.below HY4.out.lt bz)
      have HB5 := Lib.hid (HB4.out.trans (bz.mono HB4.out.size))
      have HKY := Lib.hid (show k1 ≠ x ∧ b2 ≠ x ∧ k1 ≠ y ∧ b2 ≠ y from by
        have h0 : 0 < (q.s.put b (q.s.cnt b + 1)).n := HA5.out.ok.lo
        have s1 := HA5.out.cnt h0
        have s2 := HA5.out.was h0
        have s3 := HX5.out.cellAt (i := 0) rfl
        have s4 := HY5.out.cellAt (i := 0) rfl
        refine ⟨?_, ?_, ?_, ?_⟩
        · rintro rfl; rw [s1] at s3; cases s3
        · rintro rfl; rw [s2] at s3; cases s3
        · rintro rfl; rw [s1] at s4; cases s4
        · rintro rfl; rw [s2] at s4; cases s4)
      clear az bz HAD HA4 HX4 HY4 HB4 d0 e0 f0 d1 e1 f1 d2 e2 f2 d3 e3 f3 d4 e4 f4
      have d0 := HX5.out.cellAt (i := 0) rfl
      have d1 := HX5.out.cellAt (i := 1) rfl
      have d2 := HX5.out.cellAt (i := 2) rfl
      have d3 := HX5.out.cellAt (i := 3) rfl
      have d4 := HX5.out.cellAt (i := 4) rfl
      have e0 := HY5.out.cellAt (i := 0) rfl
      have e1 := HY5.out.cellAt (i := 1) rfl
      have e2 := HY5.out.cellAt (i := 2) rfl
      have e3 := HY5.out.cellAt (i := 3) rfl
      have e4 := HY5.out.cellAt (i := 4) rfl
      have f0 := HY5.out.free 0
      have f1 := HY5.out.free 1
      have f2 := HY5.out.free 2
      have f3 := HY5.out.free 3
      have f4 := HY5.out.free 4
      have g0 := HX5.out.free 0
      have g1 := HX5.out.free 1
      have g3 := HX5.out.free 3
      obtain ⟨nb, hnb⟩ : ∃ nb : Nat, nb = b + 1 := ⟨_, rfl⟩
      have hb1 : (b : Int) + 1 = (nb : Int) := by omega
      have hb2 : nb ≤ 4096 := by omega
      have HNB := Lib.hid hnb
      clear hnb
      go_upto_region 9 with (fail)
      have HX6 := Lib.hid ((HX5.out.set 0 (.slice (some ⟨k1, 0, none⟩) q.s.n l1)).set 1 (.slice (some ⟨b2, 0, none⟩) q.s.n c2))
      have HY6 := Lib.hid ((HY5.out.other (q := x) (i := 0) (v := .slice (some ⟨k1, 0, none⟩) q.s.n l1) (fun e => hxy e.symm)).other (q := x) (i := 1) (v := .slice (some ⟨b2, 0, none⟩) q.s.n c2) (fun e => hxy e.symm))
      have HB6 := Lib.hid ((HB5.out.setCell (p := ⟨x, 0, none⟩) hxw (.slice (some ⟨k1, 0, none⟩) q.s.n l1)).setCell (p := ⟨x, 1, none⟩) hxw (.slice (some ⟨b2, 0, none⟩) q.s.n c2))
      have HA6 := Lib.hid (show RAt ((w5.setCell ⟨x, 0, none⟩ (.slice (some ⟨k1, 0, none⟩) q.s.n l1)).setCell ⟨x, 1, none⟩ (.slice (some ⟨b2, 0, none⟩) q.s.n c2)) k1 l1 b2 c2 (q.s.put b (q.s.cnt b + 1)) from
        ⟨(HA5.out.now.block (heap_setCell_other _ _ _ _ HKY.out.1)).block (heap_setCell_other _ _ _ _ HKY.out.1), (HA5.out.kept.block (heap_setCell_other _ _ _ _ HKY.out.2.1)).block (heap_setCell_other _ _ _ _ HKY.out.2.1), HA5.out.ok⟩)
      clear HX5 HY5 HB5 HA5 d0 e0 f0 d1 e1 f1 d2 e2 f2 d3 e3 f3 d4 e4 f4 g0 g1 g3
      generalize (w5.setCell ⟨x, 0, none⟩ (.slice (some ⟨k1, 0, none⟩) q.s.n l1)).setCell ⟨x, 1, none⟩ (.slice (some ⟨b2, 0, none⟩) q.s.n c2) = w6 at *
      have d0 := HX6.out.cellAt (i := 0) rfl
      have d1 := HX6.out.cellAt (i := 1) rfl
      have d2 := HX6.out.cellAt (i := 2) rfl
      have d3 := HX6.out.cellAt (i := 3) rfl
      have d4 := HX6.out.cellAt (i := 4) rfl
      have e0 := HY6.out.cellAt (i := 0) rfl
      have e1 := HY6.out.cellAt (i := 1) rfl
      have e2 := HY6.out.cellAt (i := 2) rfl
      have e3 := HY6.out.cellAt (i := 3) rfl
      have e4 := HY6.out.cellAt (i := 4) rfl
      have f0 := HY6.out.free 0
      have f1 := HY6.out.free 1
      have f2 := HY6.out.free 2
      have f3 := HY6.out.free 3
      have f4 := HY6.out.free 4
      have g0 := HX6.out.free 0
      have g1 := HX6.out.free 1
      have g3 := HX6.out.free 3
      go_upto_region 10 with (fail)
      have HX7 := Lib.hid (HX6.out.set 3 (.int .i64 (nb : Int)))
      have HY7 := Lib.hid (HY6.out.other (q := x) (i := 3) (v := .int .i64 (nb : Int)) (fun e => hxy e.symm))
      have HB7 := Lib.hid (HB6.out.setCell (p := ⟨x, 3, none⟩) hxw (.int .i64 (nb : Int)))
      have HA7 := Lib.hid (RAt.off HA6.out HKY.out.1 HKY.out.2.1 3 (.int .i64 (nb : Int)))
      clear HX6 HY6 HB6 HA6 d0 e0 f0 d1 e1 f1 d2 e2 f2 d3 e3 f3 d4 e4 f4 g0 g1 g3
      generalize w6.setCell ⟨x, 3, none⟩ (.int .i64 (nb : Int)) = w7 at *
      have d0 := HX7.out.cellAt (i := 0) rfl
      have d1 := HX7.out.cellAt (i := 1) rfl
      have d2 := HX7.out.cellAt (i := 2) rfl
      have d3 := HX7.out.cellAt (i := 3) rfl
      have d4 := HX7.out.cellAt (i := 4) rfl
      have e0 := HY7.out.cellAt (i := 0) rfl
      have e1 := HY7.out.cellAt (i := 1) rfl
      have e2 := HY7.out.cellAt (i := 2) rfl
      have e3 := HY7.out.cellAt (i := 3) rfl
      have e4 := HY7.out.cellAt (i := 4) rfl
      have f0 := HY7.out.free 0
      have f1 := HY7.out.free 1
      have f2 := HY7.out.free 2
      have f3 := HY7.out.free 3
      have f4 := HY7.out.free 4
      have g3 := HX7.out.free 3
      by_cases hlast : nb = q.s.n
      · have hli : (nb : Int) = (q.s.n : Int) := by omega
        have HT := Lib.hid (show q.took b = ⟨q.s.put b (q.s.cnt b + 1), q.first, q.first, q.asked⟩ from by unfold Q.took; rw [if_pos (by have := HNB.out; omega)])
        clear hlast
        go_upto_region 12 with (fail)
        have HX8 := Lib.hid (HX7.out.set 3 (.int .i64 (q.first : Int)))
        have HY8 := Lib.hid (HY7.out.other (q := x) (i := 3) (v := .int .i64 (q.first : Int)) (fun e => hxy e.symm))
        have HB8 := Lib.hid (HB7.out.setCell (p := ⟨x, 3, none⟩) hxw (.int .i64 (q.first : Int)))
        have HA8 := Lib.hid (RAt.off HA7.out HKY.out.1 HKY.out.2.1 3 (.int .i64 (q.first : Int)))
        clear HX7 HY7 HB7 HA7 d0 e0 f0 d1 e1 f1 d2 e2 f2 d3 e3 f3 d4 e4 f4 g3
        generalize w7.setCell ⟨x, 3, none⟩ (.int .i64 (q.first : Int)) = w8 at *
        have d0 := HX8.out.cellAt (i := 0) rfl
        have d1 := HX8.out.cellAt (i := 1) rfl
        have d2 := HX8.out.cellAt (i := 2) rfl
        have d3 := HX8.out.cellAt (i := 3) rfl
        have d4 := HX8.out.cellAt (i := 4) rfl
        have e0 := HY8.out.cellAt (i := 0) rfl
        have e1 := HY8.out.cellAt (i := 1) rfl
        have e2 := HY8.out.cellAt (i := 2) rfl
        have e3 := HY8.out.cellAt (i := 3) rfl
        have e4 := HY8.out.cellAt (i := 4) rfl
        have f0 := HY8.out.free 0
        have f1 := HY8.out.free 1
        have f2 := HY8.out.free 2
        have f3 := HY8.out.free 3
        have f4 := HY8.out.free 4
        have HV := Lib.hid (show rpv (q.took b) k1 l1 b2 c2 = .agg #[.slice (some ⟨k1, 0, none⟩) q.s.n l1, .slice (some ⟨b2, 0, none⟩) q.s.n c2, .int .i64 (q.first : Int), .int .i64 (q.first : Int), .int .i64 (q.asked : Int)] from by unfold rpv; rw [HT.out]; show Value.agg #[.slice (some ⟨k1, 0, none⟩) (q.s.put b (q.s.cnt b + 1)).n l1, .slice (some ⟨b2, 0, none⟩) (q.s.put b (q.s.cnt b + 1)).n c2, _, _, _] = _; rw [n_put])
        have HRS := Lib.hid (((((HY8.out.set 0 (.slice (some ⟨k1, 0, none⟩) q.s.n l1)).set 1 (.slice (some ⟨b2, 0, none⟩) q.s.n c2)).set 2 (.int .i64 (q.first : Int))).set 3 (.int .i64 (q.first : Int))).set 4 (.int .i64 (q.asked : Int)))
        have HWS := Lib.hid (((((HB8.out.setCell (p := ⟨y, 0, none⟩) hyw (.slice (some ⟨k1, 0, none⟩) q.s.n l1)).setCell (p := ⟨y, 1, none⟩) hyw (.slice (some ⟨b2, 0, none⟩) q.s.n c2)).setCell (p := ⟨y, 2, none⟩) hyw (.int .i64 (q.first : Int))).setCell (p := ⟨y, 3, none⟩) hyw (.int .i64 (q.first : Int))).setCell (p := ⟨y, 4, none⟩) hyw (.int .i64 (q.asked : Int)))
        go_wp2_with fail
        refine bodyPost_ret (v := .tuple #[.agg #[.slice (some ⟨k1, 0, none⟩) q.s.n l1, .slice (some ⟨b2, 0, none⟩) q.s.n c2, .int .i64 (q.first : Int), .int .i64 (q.first : Int), .int .i64 (q.asked : Int)], .int .i64 (b : Int), .int .i64 0]) ?_ rfl (⟨b, k1, l1, congrArg (fun z => Ending.returned (.tuple #[z, .int .i64 (b : Int), .int .i64 0])) HV.out.symm, HFO.out, (RAt.off (RAt.off (RAt.off (RAt.off (RAt.off (HA8.out) HKY.out.2.2.1 HKY.out.2.2.2 0 (.slice (some ⟨k1, 0, none⟩) q.s.n l1)) HKY.out.2.2.1 HKY.out.2.2.2 1 (.slice (some ⟨b2, 0, none⟩) q.s.n c2)) HKY.out.2.2.1 HKY.out.2.2.2 2 (.int .i64 (q.first : Int))) HKY.out.2.2.1 HKY.out.2.2.2 3 (.int .i64 (q.first : Int))) HKY.out.2.2.1 HKY.out.2.2.2 4 (.int .i64 (q.asked : Int))), HWS.out⟩)
        clear d0 e0 f0 d1 e1 f1 d2 e2 f2 d3 e3 f3 d4 e4 f4
        generalize (((((w8.setCell ⟨y, 0, none⟩ (.slice (some ⟨k1, 0, none⟩) q.s.n l1)).setCell ⟨y, 1, none⟩ (.slice (some ⟨b2, 0, none⟩) q.s.n c2)).setCell ⟨y, 2, none⟩ (.int .i64 (q.first : Int))).setCell ⟨y, 3, none⟩ (.int .i64 (q.first : Int))).setCell ⟨y, 4, none⟩ (.int .i64 (q.asked : Int))) = wv at *
        have d0 := HRS.out.cellAt (i := 0) rfl
        have d1 := HRS.out.cellAt (i := 1) rfl
        have d2 := HRS.out.cellAt (i := 2) rfl
        have d3 := HRS.out.cellAt (i := 3) rfl
        have d4 := HRS.out.cellAt (i := 4) rfl
        rw [results_cell_three rfl]
        try unfold rpv
        go_simp
      · have hli : ¬ ((nb : Int) = (q.s.n : Int)) := by omega
        have HT := Lib.hid (show q.took b = ⟨q.s.put b (q.s.cnt b + 1), q.first, nb, q.asked⟩ from by unfold Q.took; rw [if_neg (by have := HNB.out; omega), HNB.out])
        clear hlast
        have HV := Lib.hid (show rpv (q.took b) k1 l1 b2 c2 = .agg #[.slice (some ⟨k1, 0, none⟩) q.s.n l1, .slice (some ⟨b2, 0, none⟩) q.s.n c2, .int .i64 (q.first : Int), .int .i64 (nb : Int), .int .i64 (q.asked : Int)] from by unfold rpv; rw [HT.out]; show Value.agg #[.slice (some ⟨k1, 0, none⟩) (q.s.put b (q.s.cnt b + 1)).n l1, .slice (some ⟨b2, 0, none⟩) (q.s.put b (q.s.cnt b + 1)).n c2, _, _, _] = _; rw [n_put])
        have HRS := Lib.hid (((((HY7.out.set 0 (.slice (some ⟨k1, 0, none⟩) q.s.n l1)).set 1 (.slice (some ⟨b2, 0, none⟩) q.s.n c2)).set 2 (.int .i64 (q.first : Int))).set 3 (.int .i64 (nb : Int))).set 4 (.int .i64 (q.asked : Int)))
        have HWS := Lib.hid (((((HB7.out.setCell (p := ⟨y, 0, none⟩) hyw (.slice (some ⟨k1, 0, none⟩) q.s.n l1)).setCell (p := ⟨y, 1, none⟩) hyw (.slice (some ⟨b2, 0, none⟩) q.s.n c2)).setCell (p := ⟨y, 2, none⟩) hyw (.int .i64 (q.first : Int))).setCell (p := ⟨y, 3, none⟩) hyw (.int .i64 (nb : Int))).setCell (p := ⟨y, 4, none⟩) hyw (.int .i64 (q.asked : Int)))
        go_wp2_with fail
        refine bodyPost_ret (v := .tuple #[.agg #[.slice (some ⟨k1, 0, none⟩) q.s.n l1, .slice (some ⟨b2, 0, none⟩) q.s.n c2, .int .i64 (q.first : Int), .int .i64 (nb : Int), .int .i64 (q.asked : Int)], .int .i64 (b : Int), .int .i64 0]) ?_ rfl (⟨b, k1, l1, congrArg (fun z => Ending.returned (.tuple #[z, .int .i64 (b : Int), .int .i64 0])) HV.out.symm, HFO.out, (RAt.off (RAt.off (RAt.off (RAt.off (RAt.off (HA7.out) HKY.out.2.2.1 HKY.out.2.2.2 0 (.slice (some ⟨k1, 0, none⟩) q.s.n l1)) HKY.out.2.2.1 HKY.out.2.2.2 1 (.slice (some ⟨b2, 0, none⟩) q.s.n c2)) HKY.out.2.2.1 HKY.out.2.2.2 2 (.int .i64 (q.first : Int))) HKY.out.2.2.1 HKY.out.2.2.2 3 (.int .i64 (nb : Int))) HKY.out.2.2.1 HKY.out.2.2.2 4 (.int .i64 (q.asked : Int))), HWS.out⟩)
        clear d0 e0 f0 d1 e1 f1 d2 e2 f2 d3 e3 f3 d4 e4 f4 g3
        generalize (((((w7.setCell ⟨y, 0, none⟩ (.slice (some ⟨k1, 0, none⟩) q.s.n l1)).setCell ⟨y, 1, none⟩ (.slice (some ⟨b2, 0, none⟩) q.s.n c2)).setCell ⟨y, 2, none⟩ (.int .i64 (q.first : Int))).setCell ⟨y, 3, none⟩ (.int .i64 (nb : Int))).setCell ⟨y, 4, none⟩ (.int .i64 (q.asked : Int))) = wv at *
        have d0 := HRS.out.cellAt (i := 0) rfl
        have d1 := HRS.out.cellAt (i := 1) rfl
        have d2 := HRS.out.cellAt (i := 2) rfl
        have d3 := HRS.out.cellAt (i := 3) rfl
        have d4 := HRS.out.cellAt (i := 4) rfl
        rw [results_cell_three rfl]
        try unfold rpv
        go_simp
end Go.Proofs.Ytlemjegngnfanaa.Pk

