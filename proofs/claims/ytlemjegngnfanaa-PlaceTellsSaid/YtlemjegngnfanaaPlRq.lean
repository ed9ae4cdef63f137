/- Several texts in one. (Written by bin/merge.py: PlRF PlRG PlRH PlRI PlRO.) -/
import Derived.Test.YtlemjegngnfanaaPlRp
import Derived.Deep.CutBlock
import Derived.Lib.MinMax
import Derived.Deep.Slices
/- The reference's place: Step. (Written by bin/gen_plrf.py.) -/
namespace Go.Proofs.Ytlemjegngnfanaa.Pl
open Go.RowKit Go.Proofs.Ytlemjegngnfanaa.Oct Go.Proofs.Ytlemjegngnfanaa.Mv Go.Proofs.Ytlemjegngnfanaa.Tl Go.Proofs.Ytlemjegngnfanaa.Pk Go.Maps
set_option linter.unusedVariables false

/-- What a step answers. -/
def StepR (n n1 n2 b2 c2 g1 d1 g3 d3 h1 f1 h3 f3 B : Nat) (x : Wk) (w : World) (e : Ending) (w' : World) : Prop :=
  ∃ (ok : Bool) (k1 e1 : Nat) (y : Wk), e = .returned (.tuple #[.agg #[.slice (some ⟨k1, 0, none⟩) n e1, .slice (some ⟨b2, 0, none⟩) n c2, .int .i64 (y.q.first : Int), .int .i64 (y.q.next : Int), .int .i64 (y.q.asked : Int), .slice (some ⟨g1, 0, none⟩) n1 d1, .slice (some ⟨g3, 0, none⟩) n2 d3, .slice (some ⟨h1, 0, none⟩) n1 f1, .slice (some ⟨h3, 0, none⟩) n2 f3], .bool ok]) ∧ (ok = true → x.Step y) ∧ (ok = false → x.End ∧ y = x) ∧ RW w' k1 e1 b2 c2 g1 g3 h1 h3 B y ∧ ButL w w' [g1, g3, h1, h3]
theorem state_size : (Try.prog.info? 57).map (·.size) = some 9 := by kernel_rfl
theorem noP_succ {l : List Nat} {f : List Bool} {S : Int → Prop} {k : Nat} (h : ∀ j, j < k → ¬ askP l f S j) (hk : ¬ askP l f S k) : ∀ j, j < k + 1 → ¬ askP l f S j := by
  intro j hj
  rcases Nat.lt_or_ge j k with h1 | h1
  · exact h j h1
  · obtain rfl : j = k := by omega
    exact hk
theorem noP_all {l : List Nat} {f : List Bool} {S : Int → Prop} (h : ∀ j, j < l.length → ¬ askP l f S j) : noP l f S := fun j hj => h j hj.1 hj
set_option maxRecDepth 100000 in
set_option maxHeartbeats 16000000 in
theorem rstep_any {w : World} {n n1 n2 b1 c1 b2 c2 g1 d1 g3 d3 h1 f1 h3 f3 B : Nat} {x : Wk} (h : RW w b1 c1 b2 c2 g1 g3 h1 h3 B x) (hg : x.Good) (hn : x.q.s.n = n) (hn1 : x.l1.length = n1) (hn2 : x.l2.length = n2) (hB : B ≤ w.heap.size) :
    Calls Try.prog 50 #[.agg #[.slice (some ⟨b1, 0, none⟩) n c1, .slice (some ⟨b2, 0, none⟩) n c2, .int .i64 (x.q.first : Int), .int .i64 (x.q.next : Int), .int .i64 (x.q.asked : Int), .slice (some ⟨g1, 0, none⟩) n1 d1, .slice (some ⟨g3, 0, none⟩) n2 d3, .slice (some ⟨h1, 0, none⟩) n1 f1, .slice (some ⟨h3, 0, none⟩) n2 f3]] w (StepR n n1 n2 b2 c2 g1 d1 g3 d3 h1 f1 h3 f3 B x w) := by
  have hz := state_zero
  have B1 := box_below w (.cells #[.slice (some ⟨b1, 0, none⟩) n c1, .slice (some ⟨b2, 0, none⟩) n c2, .int .i64 (x.q.first : Int), .int .i64 (x.q.next : Int), .int .i64 (x.q.asked : Int), .slice (some ⟨g1, 0, none⟩) n1 d1, .slice (some ⟨g3, 0, none⟩) n2 d3, .slice (some ⟨h1, 0, none⟩) n1 f1, .slice (some ⟨h3, 0, none⟩) n2 f3] 57)
  have R1 := alloc_rowV w 57 [.slice (some ⟨b1, 0, none⟩) n c1, .slice (some ⟨b2, 0, none⟩) n c2, .int .i64 (x.q.first : Int), .int .i64 (x.q.next : Int), .int .i64 (x.q.asked : Int), .slice (some ⟨g1, 0, none⟩) n1 d1, .slice (some ⟨g3, 0, none⟩) n2 d3, .slice (some ⟨h1, 0, none⟩) n1 f1, .slice (some ⟨h3, 0, none⟩) n2 f3]
  have hs1 : (w.alloc (.cells #[.slice (some ⟨b1, 0, none⟩) n c1, .slice (some ⟨b2, 0, none⟩) n c2, .int .i64 (x.q.first : Int), .int .i64 (x.q.next : Int), .int .i64 (x.q.asked : Int), .slice (some ⟨g1, 0, none⟩) n1 d1, .slice (some ⟨g3, 0, none⟩) n2 d3, .slice (some ⟨h1, 0, none⟩) n1 f1, .slice (some ⟨h3, 0, none⟩) n2 f3] 57)).heap.size = w.heap.size + 1 := by simp
  have Z1 := box_below (w.alloc (.cells #[.slice (some ⟨b1, 0, none⟩) n c1, .slice (some ⟨b2, 0, none⟩) n c2, .int .i64 (x.q.first : Int), .int .i64 (x.q.next : Int), .int .i64 (x.q.asked : Int), .slice (some ⟨g1, 0, none⟩) n1 d1, .slice (some ⟨g3, 0, none⟩) n2 d3, .slice (some ⟨h1, 0, none⟩) n1 f1, .slice (some ⟨h3, 0, none⟩) n2 f3] 57)) (.cells #[.slice none 0 0, .slice none 0 0, .int .i64 0, .int .i64 0, .int .i64 0, .slice none 0 0, .slice none 0 0, .slice none 0 0, .slice none 0 0] 57)
  have R2 := alloc_rowV (w.alloc (.cells #[.slice (some ⟨b1, 0, none⟩) n c1, .slice (some ⟨b2, 0, none⟩) n c2, .int .i64 (x.q.first : Int), .int .i64 (x.q.next : Int), .int .i64 (x.q.asked : Int), .slice (some ⟨g1, 0, none⟩) n1 d1, .slice (some ⟨g3, 0, none⟩) n2 d3, .slice (some ⟨h1, 0, none⟩) n1 f1, .slice (some ⟨h3, 0, none⟩) n2 f3] 57)) 57 [.slice none 0 0, .slice none 0 0, .int .i64 0, .int .i64 0, .int .i64 0, .slice none 0 0, .slice none 0 0, .slice none 0 0, .slice none 0 0]
  have HX := Lib.hid (R1.below R1.lt Z1)
  rw [hs1] at R2
  have HY := Lib.hid R2
  have HB := Lib.hid (ButL.of_below [g1, g3, h1, h3] (B1.trans (Z1.mono B1.size)) (Nat.le_refl _))
  have HRW := Lib.hid (h.below (B1.trans (Z1.mono B1.size)))
  have HBB := Lib.hid hB
  have HG := Lib.hid hg
  have HN := Lib.hid hn
  have HL := Lib.hid (And.intro hn1 (And.intro hn2 (And.intro hg.fl1 hg.fl2)))
  have hle1 : n1 ≤ 4096 := by rw [← hn1]; exact hg.l1_le
  have hle2 : n2 ≤ 4096 := by rw [← hn2]; exact hg.l2_le
  clear h hg hn hn1 hn2 B1 R1 Z1 R2 hs1
  go_enter Try.func50, Try.ntmps50
  go_upto_region 1 with (fail)
  generalize (w.alloc (.cells #[.slice (some ⟨b1, 0, none⟩) n c1, .slice (some ⟨b2, 0, none⟩) n c2, .int .i64 (x.q.first : Int), .int .i64 (x.q.next : Int), .int .i64 (x.q.asked : Int), .slice (some ⟨g1, 0, none⟩) n1 d1, .slice (some ⟨g3, 0, none⟩) n2 d3, .slice (some ⟨h1, 0, none⟩) n1 f1, .slice (some ⟨h3, 0, none⟩) n2 f3] 57)).alloc (.cells #[.slice none 0 0, .slice none 0 0, .int .i64 0, .int .i64 0, .int .i64 0, .slice none 0 0, .slice none 0 0, .slice none 0 0, .slice none 0 0] 57) = w1 at *
  obtain ⟨X, hX⟩ : ∃ X, X = w.heap.size := ⟨_, rfl⟩
  obtain ⟨Y, hY⟩ : ∃ Y, Y = w.heap.size + 1 := ⟨_, rfl⟩
  rw [← hY] at HY ⊢
  rw [← hX] at HX
  simp only [← hX]
  have HXY := Lib.hid (show X ≠ Y ∧ w.heap.size ≤ X ∧ w.heap.size ≤ Y by omega)
  clear hX hY hB
  go_wp2_with fail
  go_loopg [4] n1 (fun gg sI wr => ∃ k : Nat, k ≤ n1 ∧ gg = n1 - k ∧ sI = .int .i64 (k : Int) ∧ Hid (∀ j, j < k → ¬ askP x.l1 x.f1 x.S1 j) ∧ Hid (Below w1.heap.size w1 wr))
  case atStart => exact ⟨0, Nat.zero_le _, rfl, rfl, Lib.hid (fun j h => by omega), Lib.hid (Below.refl _ _)⟩
  case round =>
    obtain ⟨k, hk, hgg, rfl, HNO, HB2⟩ := hrel
    have HX2 := Lib.hid (HX.out.below HX.out.lt HB2.out)
    have HY2 := Lib.hid (HY.out.below HY.out.lt HB2.out)
    have HRW2 := Lib.hid (HRW.out.below HB2.out)
    have HC2 := Lib.hid (HB.out.trans (ButL.of_below [g1, g3, h1, h3] HB2.out (Nat.le_refl _)))
    have a0 := HX2.out.cellAt (i := 0) rfl
    have a1 := HX2.out.cellAt (i := 1) rfl
    have a2 := HX2.out.cellAt (i := 2) rfl
    have a3 := HX2.out.cellAt (i := 3) rfl
    have a4 := HX2.out.cellAt (i := 4) rfl
    have a5 := HX2.out.cellAt (i := 5) rfl
    have a6 := HX2.out.cellAt (i := 6) rfl
    have a7 := HX2.out.cellAt (i := 7) rfl
    have a8 := HX2.out.cellAt (i := 8) rfl
    by_cases hlt : k < n1
    · have hki : (k : Int) < (n1 : Int) := by omega
      have hkl : k < x.l1.length := by have := HL.out; omega
      have cf : wr.cell? ⟨h1, k, none⟩ = some (.bool (x.f1.getD k false)) := (by obtain ⟨sp, hh⟩ := HRW2.out.t1; exact row_bool hh (by have := HL.out; omega))
      have cl : wr.cell? ⟨g1, k, none⟩ = some (.int .i64 ((x.l1.getD k 0 : Nat) : Int)) := (by obtain ⟨sp, hh⟩ := HRW2.out.r1; exact row_int hh hkl)
      obtain ⟨old, hold⟩ : ∃ old, old = x.l1.getD k 0 := ⟨_, rfl⟩
      rw [← hold] at cl
      have HOL := Lib.hid hold
      have HKL := Lib.hid hkl
      clear hold hkl
      go_upto_region 4 with (fail)
      go_cut [36] (fun sA wx => ∃ r : Bool, sA = .bool r ∧ Hid (r = true ↔ askP x.l1 x.f1 x.S1 k) ∧ Hid (Below wr.heap.size wr wx))
      case first =>
        cases hfk : x.f1.getD k false
        · rw [hfk] at cf
          have HFK := Lib.hid hfk
          clear hfk
          by_cases ho0 : old = 0
          · subst ho0
            go_wp2_with fail
            go_meet
            exact ⟨true, rfl, Lib.hid ⟨fun _ => ⟨HKL.out, HFK.out, .inl HOL.out.symm⟩, fun _ => rfl⟩, Lib.hid (Below.refl _ _)⟩
          · have hoi : ((old : Int) == 0) = false := beq_eq_false_iff_ne.2 (by omega)
            have HO0 := Lib.hid ho0
            clear ho0
            go_wp2_with fail
            refine (rchanged_any HRW2.out.rat HN.out _ _ _ _ _ _ _ _ _ _ _ _ k (by omega)).mono ?_
            rintro e w3 ⟨r, rfl, hr, bz⟩
            have HR := Lib.hid hr
            have HBZ := Lib.hid bz
            clear hr bz
            go_wp2_with fail
            go_meet
            refine ⟨r, rfl, Lib.hid ⟨fun e => ⟨HKL.out, HFK.out, .inr (HR.out.1 e)⟩, fun hh => ?_⟩, HBZ⟩
            rcases hh.2.2 with h1 | h1
            · exact absurd (HOL.out.trans h1) HO0.out
            · exact HR.out.2 h1
        · rw [hfk] at cf
          have HFK := Lib.hid hfk
          clear hfk
          go_wp2_with fail
          go_meet
          exact ⟨false, rfl, Lib.hid ⟨fun e => (by cases e), fun hh => absurd (hh.2.1.symm.trans HFK.out) (by decide)⟩, Lib.hid (Below.refl _ _)⟩
      case rest =>
        obtain ⟨r, rfl, HR, HBW⟩ := hcut
        cases r
        · have HNA := Lib.hid (fun hh => absurd (HR.out.2 hh) (by decide) : ¬ askP x.l1 x.f1 x.S1 k)
          have HB9 := Lib.hid (HB2.out.trans (HBW.out.mono HB2.out.size))
          clear HR a0 a1 a2 a3 a4 a5 a6 a7 a8 cf cl HX2 HY2 HRW2 HC2
          go_wp2_with fail
          go_roundg (n1 - (k + 1))
          case measure => omega
          case rel => exact ⟨k + 1, by omega, rfl, by go_num, Lib.hid (noP_succ HNO.out HNA.out), HB9⟩
        · have HAS := Lib.hid (HR.out.1 rfl)
          have HX3 := Lib.hid (HX2.out.below HX2.out.lt HBW.out)
          have HY3 := Lib.hid (HY2.out.below HY2.out.lt HBW.out)
          have HRW3 := Lib.hid (HRW2.out.below HBW.out)
          have HC3 := Lib.hid (HC2.out.trans (ButL.of_below [g1, g3, h1, h3] HBW.out (Nat.le_refl _)))
          have HM1 := Lib.hid (HG.out.may1 HAS.out.1 HAS.out.2.1)
          have HRM := Lib.hid (HG.out.room1 HAS.out.1 HAS.out.2.1)
          rw [← HOL.out] at HM1
          clear HR a0 a1 a2 a3 a4 a5 a6 a7 a8 cf cl HX2 HY2 HRW2 HC2 HB2 HBW
          go_upto_region 5 with (fail)
          obtain ⟨w5, hw5⟩ : ∃ w5, w5 = wc := ⟨_, rfl⟩
          rw [← hw5] at HX3 HY3 HRW3 HC3 ⊢
          clear hw5
          refine Inv2.wp_region_inv (fun b a wy => ∃ (z : Nat → Value) (z5 : Value) (z6 : Value) (z37 : Value) (z45 : Value) (z46 : Value) (z47 : Value), a = ⟨(List.toArray (.agg #[.slice (some ⟨b1, 0, none⟩) n c1, .slice (some ⟨b2, 0, none⟩) n c2, .int .i64 (x.q.first : Int), .int .i64 (x.q.next : Int), .int .i64 (x.q.asked : Int), .slice (some ⟨g1, 0, none⟩) n1 d1, .slice (some ⟨g3, 0, none⟩) n2 d3, .slice (some ⟨h1, 0, none⟩) n1 f1, .slice (some ⟨h3, 0, none⟩) n2 f3] :: .pointer (some ⟨X, 0, none⟩) :: .pointer (some ⟨Y, 0, none⟩) :: u3 :: .int .i64 (k : Int) :: z5 :: z6 :: undef :: undef :: undef :: u10 :: u11 :: u12 :: u13 :: u14 :: u15 :: u16 :: u17 :: u18 :: u19 :: u20 :: u21 :: u22 :: u23 :: u24 :: u25 :: u26 :: u27 :: u28 :: u29 :: u30 :: u31 :: u32 :: u33 :: u34 :: u35 :: .bool true :: z37 :: (z 38) :: (z 39) :: (z 40) :: (z 41) :: (z 42) :: (z 43) :: (z 44) :: z45 :: z46 :: z47 :: u48 :: u49 :: u50 :: u51 :: u52 :: u53 :: u54 :: u55 :: u56 :: u57 :: u58 :: undef :: undef :: undef :: undef :: undef :: undef :: undef :: undef :: undef :: undef :: undef :: undef :: undef :: undef :: undef :: undef :: undef :: undef :: undef :: undef :: undef :: undef :: undef :: undef :: undef :: undef :: undef :: undef :: undef :: undef :: undef :: undef :: undef :: undef :: undef :: undef :: undef :: undef :: undef :: undef :: undef :: undef :: undef :: undef :: undef :: undef :: undef :: undef :: undef :: undef :: [])), []⟩ ∧ Hid ((b 0 = true → (z 38) = .agg #[.slice (some ⟨b1, 0, none⟩) n c1, .slice (some ⟨b2, 0, none⟩) n c2, .int .i64 (x.q.first : Int), .int .i64 (x.q.next : Int), .int .i64 (x.q.asked : Int), .slice (some ⟨g1, 0, none⟩) n1 d1, .slice (some ⟨g3, 0, none⟩) n2 d3, .slice (some ⟨h1, 0, none⟩) n1 f1, .slice (some ⟨h3, 0, none⟩) n2 f3]) ∧ (b 1 = true → (z 39) = .pointer (some ⟨X, 5, none⟩)) ∧ (b 2 = true → (z 40) = .pointer (some ⟨X, 5, none⟩)) ∧ (b 3 = true → (z 41) = .slice (some ⟨g1, 0, none⟩) n1 d1) ∧ (b 4 = true → (z 42) = .int .i64 (k : Int)) ∧ (b 5 = true → (z 43) = .pointer (some ⟨g1, k, none⟩)) ∧ (b 6 = true → (z 44) = .int .i64 (old : Int))) ∧ Hid (Below w5.heap.size w5 wy) ∧ Hid (∃ (q' : Q) (bb kk ee : Nat), (b 7 = true → z45 = .tuple #[.agg #[.slice (some ⟨kk, 0, none⟩) n ee, .slice (some ⟨b2, 0, none⟩) n c2, .int .i64 (q'.first : Int), .int .i64 (q'.next : Int), .int .i64 (q'.asked : Int), .slice (some ⟨g1, 0, none⟩) n1 d1, .slice (some ⟨g3, 0, none⟩) n2 d3, .slice (some ⟨h1, 0, none⟩) n1 f1, .slice (some ⟨h3, 0, none⟩) n2 f3], .int .i64 (bb : Int)] ∧ Moved x.q old q' bb ∧ RAt wy kk ee b2 c2 q'.s ∧ w5.heap.size ≤ kk) ∧ (b 8 = true → b 7 = true ∧ z37 = .tuple #[.agg #[.slice (some ⟨kk, 0, none⟩) n ee, .slice (some ⟨b2, 0, none⟩) n c2, .int .i64 (q'.first : Int), .int .i64 (q'.next : Int), .int .i64 (q'.asked : Int), .slice (some ⟨g1, 0, none⟩) n1 d1, .slice (some ⟨g3, 0, none⟩) n2 d3, .slice (some ⟨h1, 0, none⟩) n1 f1, .slice (some ⟨h3, 0, none⟩) n2 f3], .int .i64 (bb : Int)]) ∧ (b 9 = true → b 7 = true ∧ z46 = .agg #[.slice (some ⟨kk, 0, none⟩) n ee, .slice (some ⟨b2, 0, none⟩) n c2, .int .i64 (q'.first : Int), .int .i64 (q'.next : Int), .int .i64 (q'.asked : Int), .slice (some ⟨g1, 0, none⟩) n1 d1, .slice (some ⟨g3, 0, none⟩) n2 d3, .slice (some ⟨h1, 0, none⟩) n1 f1, .slice (some ⟨h3, 0, none⟩) n2 f3]) ∧ (b 10 = true → b 7 = true ∧ z47 = .int .i64 (bb : Int)) ∧ (b 11 = true → ∃ r, z5 = .pointer (some ⟨r, 0, none⟩) ∧ w5.heap.size ≤ r ∧ (b 12 = false → RowV wy r 57 [.slice none 0 0, .slice none 0 0, .int .i64 0, .int .i64 0, .int .i64 0, .slice none 0 0, .slice none 0 0, .slice none 0 0, .slice none 0 0]) ∧ (b 12 = true → b 9 = true ∧ RowV wy r 57 [.slice (some ⟨kk, 0, none⟩) n ee, .slice (some ⟨b2, 0, none⟩) n c2, .int .i64 (q'.first : Int), .int .i64 (q'.next : Int), .int .i64 (q'.asked : Int), .slice (some ⟨g1, 0, none⟩) n1 d1, .slice (some ⟨g3, 0, none⟩) n2 d3, .slice (some ⟨h1, 0, none⟩) n1 f1, .slice (some ⟨h3, 0, none⟩) n2 f3])) ∧ (b 12 = true → b 11 = true) ∧ (b 13 = true → b 7 = true ∧ z6 = .int .i64 (bb : Int)))) (by kernel_rfl) (by kernel_rfl) ?startR5 ?stepsR5 ?doneR5
          case startR5 =>
            intro b hb
            refine ⟨fun s => if s = 38 then u38 else if s = 39 then u39 else if s = 40 then u40 else if s = 41 then u41 else if s = 42 then u42 else if s = 43 then u43 else if s = 44 then u44 else undef, u5, u6, u37, u45, u46, u47, rfl, Lib.hid ⟨?_, ?_, ?_, ?_, ?_, ?_, ?_⟩, Lib.hid ((show Still w5 w5.drew from ⟨rfl, rfl, rfl, rfl⟩).below _), Lib.hid (⟨x.q, 0, 0, 0, (fun e => by rw [hb _ (by decide)] at e; cases e), (fun e => by rw [hb _ (by decide)] at e; cases e), (fun e => by rw [hb _ (by decide)] at e; cases e), (fun e => by rw [hb _ (by decide)] at e; cases e), (fun e => by rw [hb _ (by decide)] at e; cases e), (fun e => by rw [hb _ (by decide)] at e; cases e), (fun e => by rw [hb _ (by decide)] at e; cases e)⟩)⟩
            all_goals (intro e; first | rfl | (rw [hb _ (by decide)] at e; cases e))
          case stepsR5 =>
            refine ⟨?_, ?_, ?_, ?_, ?_, ?_, ?_, ?_, ?_, ?_, ?_, ?_, ?_, ?_, trivial⟩
            · rintro b a wy hb hd ⟨z, z5, z6, z37, z45, z46, z47, rfl, HV, HW, HX⟩ K hK
              clear hd
              have cc0 := (HX3.out.below HX3.out.lt HW.out).cellAt (i := 0) rfl
              have cc1 := (HX3.out.below HX3.out.lt HW.out).cellAt (i := 1) rfl
              have cc2 := (HX3.out.below HX3.out.lt HW.out).cellAt (i := 2) rfl
              have cc3 := (HX3.out.below HX3.out.lt HW.out).cellAt (i := 3) rfl
              have cc4 := (HX3.out.below HX3.out.lt HW.out).cellAt (i := 4) rfl
              have cc5 := (HX3.out.below HX3.out.lt HW.out).cellAt (i := 5) rfl
              have cc6 := (HX3.out.below HX3.out.lt HW.out).cellAt (i := 6) rfl
              have cc7 := (HX3.out.below HX3.out.lt HW.out).cellAt (i := 7) rfl
              have cc8 := (HX3.out.below HX3.out.lt HW.out).cellAt (i := 8) rfl
              go_simp
              have V := HV.out
              exact hK _ _ ⟨fun s => if s = 38 then .agg #[.slice (some ⟨b1, 0, none⟩) n c1, .slice (some ⟨b2, 0, none⟩) n c2, .int .i64 (x.q.first : Int), .int .i64 (x.q.next : Int), .int .i64 (x.q.asked : Int), .slice (some ⟨g1, 0, none⟩) n1 d1, .slice (some ⟨g3, 0, none⟩) n2 d3, .slice (some ⟨h1, 0, none⟩) n1 f1, .slice (some ⟨h3, 0, none⟩) n2 f3] else z s, _, _, _, _, _, _, rfl, Lib.hid ⟨fun _ => rfl, V.2.1, V.2.2.1, V.2.2.2.1, V.2.2.2.2.1, V.2.2.2.2.2.1, V.2.2.2.2.2.2⟩, HW, HX⟩
            · rintro b a wy hb hd ⟨z, z5, z6, z37, z45, z46, z47, rfl, HV, HW, HX⟩ K hK
              clear hd
              go_simp
              have V := HV.out
              exact hK _ _ ⟨fun s => if s = 39 then .pointer (some ⟨X, 5, none⟩) else z s, _, _, _, _, _, _, rfl, Lib.hid ⟨V.1, fun _ => rfl, V.2.2.1, V.2.2.2.1, V.2.2.2.2.1, V.2.2.2.2.2.1, V.2.2.2.2.2.2⟩, HW, HX⟩
            · rintro b a wy hb hd ⟨z, z5, z6, z37, z45, z46, z47, rfl, HV, HW, HX⟩ K hK
              simp [Region.binds] at hd
              have e1 : (z 39) = .pointer (some ⟨X, 5, none⟩) := (HV.out.2.1) (by simp [hd])
              clear hd
              go_simp
              have V := HV.out
              exact hK _ _ ⟨fun s => if s = 40 then .pointer (some ⟨X, 5, none⟩) else if s = 39 then .pointer (some ⟨X, 5, none⟩) else z s, _, _, _, _, _, _, rfl, Lib.hid ⟨V.1, fun _ => rfl, fun _ => rfl, V.2.2.2.1, V.2.2.2.2.1, V.2.2.2.2.2.1, V.2.2.2.2.2.2⟩, HW, HX⟩
            · rintro b a wy hb hd ⟨z, z5, z6, z37, z45, z46, z47, rfl, HV, HW, HX⟩ K hK
              simp [Region.binds] at hd
              have e2 : (z 40) = .pointer (some ⟨X, 5, none⟩) := (HV.out.2.2.1) (by simp [hd])
              clear hd
              have cc5 := (HX3.out.below HX3.out.lt HW.out).cellAt (i := 5) rfl
              go_simp
              have V := HV.out
              exact hK _ _ ⟨fun s => if s = 41 then .slice (some ⟨g1, 0, none⟩) n1 d1 else if s = 40 then .pointer (some ⟨X, 5, none⟩) else z s, _, _, _, _, _, _, rfl, Lib.hid ⟨V.1, V.2.1, fun _ => rfl, fun _ => rfl, V.2.2.2.2.1, V.2.2.2.2.2.1, V.2.2.2.2.2.2⟩, HW, HX⟩
            · rintro b a wy hb hd ⟨z, z5, z6, z37, z45, z46, z47, rfl, HV, HW, HX⟩ K hK
              clear hd
              go_simp
              have V := HV.out
              exact hK _ _ ⟨fun s => if s = 42 then .int .i64 (k : Int) else z s, _, _, _, _, _, _, rfl, Lib.hid ⟨V.1, V.2.1, V.2.2.1, V.2.2.2.1, fun _ => rfl, V.2.2.2.2.2.1, V.2.2.2.2.2.2⟩, HW, HX⟩
            · rintro b a wy hb hd ⟨z, z5, z6, z37, z45, z46, z47, rfl, HV, HW, HX⟩ K hK
              simp [Region.binds] at hd
              have e3 : (z 41) = .slice (some ⟨g1, 0, none⟩) n1 d1 := (HV.out.2.2.2.1) (by simp [hd])
              have e4 : (z 42) = .int .i64 (k : Int) := (HV.out.2.2.2.2.1) (by simp [hd])
              clear hd
              go_simp
              have V := HV.out
              exact hK _ _ ⟨fun s => if s = 43 then .pointer (some ⟨g1, k, none⟩) else if s = 41 then .slice (some ⟨g1, 0, none⟩) n1 d1 else if s = 42 then .int .i64 (k : Int) else z s, _, _, _, _, _, _, rfl, Lib.hid ⟨V.1, V.2.1, V.2.2.1, fun _ => rfl, fun _ => rfl, fun _ => rfl, V.2.2.2.2.2.2⟩, HW, HX⟩
            · rintro b a wy hb hd ⟨z, z5, z6, z37, z45, z46, z47, rfl, HV, HW, HX⟩ K hK
              simp [Region.binds] at hd
              have e5 : (z 43) = .pointer (some ⟨g1, k, none⟩) := (HV.out.2.2.2.2.2.1) (by simp [hd])
              clear hd
              have cl : wy.cell? ⟨g1, k, none⟩ = some (.int .i64 (old : Int)) := (by obtain ⟨sp, hh⟩ := (HRW3.out.below HW.out).r1; rw [HOL.out]; exact row_int hh HKL.out)
              go_simp
              have V := HV.out
              exact hK _ _ ⟨fun s => if s = 44 then .int .i64 (old : Int) else if s = 43 then .pointer (some ⟨g1, k, none⟩) else z s, _, _, _, _, _, _, rfl, Lib.hid ⟨V.1, V.2.1, V.2.2.1, V.2.2.2.1, V.2.2.2.2.1, fun _ => rfl, fun _ => rfl⟩, HW, HX⟩
            · rintro b a wy hb hd ⟨z, z5, z6, z37, z45, z46, z47, rfl, HV, HW, HX⟩ K hK
              simp [Region.binds] at hd
              have e0 : (z 38) = .agg #[.slice (some ⟨b1, 0, none⟩) n c1, .slice (some ⟨b2, 0, none⟩) n c2, .int .i64 (x.q.first : Int), .int .i64 (x.q.next : Int), .int .i64 (x.q.asked : Int), .slice (some ⟨g1, 0, none⟩) n1 d1, .slice (some ⟨g3, 0, none⟩) n2 d3, .slice (some ⟨h1, 0, none⟩) n1 f1, .slice (some ⟨h3, 0, none⟩) n2 f3] := (HV.out.1) (by simp [hd])
              have e6 : (z 44) = .int .i64 (old : Int) := (HV.out.2.2.2.2.2.2) (by simp [hd])
              clear hd
              obtain ⟨q', bb, kk, ee, x1, x2, x3, x4, x5, x6, x7⟩ := HX.out
              have HXX := Lib.hid (And.intro x5 x6)
              have nb : ∀ j, (b j = true → b 7 = true) → ¬ b j = true := fun j h e => absurd (h e) (by rw [hb]; decide)
              have NB := Lib.hid (And.intro (nb 8 fun e => (x2 e).1) (And.intro (nb 9 fun e => (x3 e).1) (And.intro (nb 10 fun e => (x4 e).1) (nb 13 fun e => (x7 e).1))))
              clear x1 x2 x3 x4 x5 x6 x7 nb HX
              go_simp
              go_at_call 62
              refine (rmoved_any (HRW3.out.below HW.out).rat HG.out.ok HN.out _ _ _ _ _ _ _ _ _ _ _ _ old HM1.out HRM.out).mono ?_
              rintro e wz ⟨q', bb, kk, ee, rfl, hmv, hra, hfr, kz⟩
              try go_simp
              have V := HV.out
              exact hK _ _ ⟨fun s => if s = 38 then .agg #[.slice (some ⟨b1, 0, none⟩) n c1, .slice (some ⟨b2, 0, none⟩) n c2, .int .i64 (x.q.first : Int), .int .i64 (x.q.next : Int), .int .i64 (x.q.asked : Int), .slice (some ⟨g1, 0, none⟩) n1 d1, .slice (some ⟨g3, 0, none⟩) n2 d3, .slice (some ⟨h1, 0, none⟩) n1 f1, .slice (some ⟨h3, 0, none⟩) n2 f3] else if s = 44 then .int .i64 (old : Int) else z s, _, _, _, _, _, _, rfl, Lib.hid ⟨fun _ => rfl, V.2.1, V.2.2.1, V.2.2.2.1, V.2.2.2.2.1, V.2.2.2.2.2.1, fun _ => rfl⟩, Lib.hid (HW.out.trans (kz.mono HW.out.size)), Lib.hid ⟨q', bb, kk, ee, fun _ => ⟨rfl, hmv, hra, Nat.le_trans HW.out.size hfr⟩, fun e => absurd e NB.out.1, fun e => absurd e NB.out.2.1, fun e => absurd e NB.out.2.2.1, fun e => (by obtain ⟨r, y1, y0, y2, y3⟩ := HXX.out.1 e; exact ⟨r, y1, y0, fun e2 => (y2 e2).below (y2 e2).lt kz, fun e2 => absurd (y3 e2).1 NB.out.2.1⟩), HXX.out.2, fun e => absurd e NB.out.2.2.2⟩⟩
            · rintro b a wy hb hd ⟨z, z5, z6, z37, z45, z46, z47, rfl, HV, HW, HX⟩ K hK
              simp [Region.binds] at hd
              have dd7 : b 7 = true := by simp [hd]
              clear hd
              obtain ⟨q', bb, kk, ee, x1, x2, x3, x4, x5, x6, x7⟩ := HX.out
              obtain ⟨rfl, hmv, hra, hfr⟩ := x1 dd7
              go_simp
              have V := HV.out
              exact hK _ _ ⟨fun s => z s, _, _, _, _, _, _, rfl, Lib.hid ⟨V.1, V.2.1, V.2.2.1, V.2.2.2.1, V.2.2.2.2.1, V.2.2.2.2.2.1, V.2.2.2.2.2.2⟩, HW, Lib.hid ⟨q', bb, kk, ee, fun _ => ⟨rfl, hmv, hra, hfr⟩, fun _ => ⟨dd7, rfl⟩, x3, x4, x5, x6, x7⟩⟩
            · rintro b a wy hb hd ⟨z, z5, z6, z37, z45, z46, z47, rfl, HV, HW, HX⟩ K hK
              simp [Region.binds] at hd
              have dd8 : b 8 = true := by simp [hd]
              clear hd
              obtain ⟨q', bb, kk, ee, x1, x2, x3, x4, x5, x6, x7⟩ := HX.out
              obtain ⟨d7, rfl⟩ := x2 dd8
              obtain ⟨rfl, hmv, hra, hfr⟩ := x1 d7
              go_simp
              have V := HV.out
              exact hK _ _ ⟨fun s => z s, _, _, _, _, _, _, rfl, Lib.hid ⟨V.1, V.2.1, V.2.2.1, V.2.2.2.1, V.2.2.2.2.1, V.2.2.2.2.2.1, V.2.2.2.2.2.2⟩, HW, Lib.hid ⟨q', bb, kk, ee, fun _ => ⟨rfl, hmv, hra, hfr⟩, fun _ => ⟨d7, rfl⟩, fun _ => ⟨d7, rfl⟩, x4, fun e => (by obtain ⟨r, y1, y0, y2, y3⟩ := x5 e; exact ⟨r, y1, y0, y2, fun e2 => absurd (y3 e2).1 (by rw [hb]; decide)⟩), x6, x7⟩⟩
            · rintro b a wy hb hd ⟨z, z5, z6, z37, z45, z46, z47, rfl, HV, HW, HX⟩ K hK
              simp [Region.binds] at hd
              have dd8 : b 8 = true := by simp [hd]
              clear hd
              obtain ⟨q', bb, kk, ee, x1, x2, x3, x4, x5, x6, x7⟩ := HX.out
              obtain ⟨d7, rfl⟩ := x2 dd8
              obtain ⟨rfl, hmv, hra, hfr⟩ := x1 d7
              go_simp
              have V := HV.out
              exact hK _ _ ⟨fun s => z s, _, _, _, _, _, _, rfl, Lib.hid ⟨V.1, V.2.1, V.2.2.1, V.2.2.2.1, V.2.2.2.2.1, V.2.2.2.2.2.1, V.2.2.2.2.2.2⟩, HW, Lib.hid ⟨q', bb, kk, ee, fun _ => ⟨rfl, hmv, hra, hfr⟩, fun _ => ⟨d7, rfl⟩, x3, fun _ => ⟨d7, rfl⟩, x5, x6, x7⟩⟩
            · rintro b a wy hb hd ⟨z, z5, z6, z37, z45, z46, z47, rfl, HV, HW, HX⟩ K hK
              clear hd
              obtain ⟨q', bb, kk, ee, x1, x2, x3, x4, x5, x6, x7⟩ := HX.out
              have hz := state_zero wy
              go_simp
              have kz := (Below.refl wy.heap.size wy).alloc (Nat.le_refl _) (.cells #[.slice none 0 0, .slice none 0 0, .int .i64 0, .int .i64 0, .int .i64 0, .slice none 0 0, .slice none 0 0, .slice none 0 0, .slice none 0 0] 57)
              have R2 := alloc_rowV wy 57 [.slice none 0 0, .slice none 0 0, .int .i64 0, .int .i64 0, .int .i64 0, .slice none 0 0, .slice none 0 0, .slice none 0 0, .slice none 0 0]
              have V := HV.out
              exact hK _ _ ⟨fun s => z s, _, _, _, _, _, _, rfl, Lib.hid ⟨V.1, V.2.1, V.2.2.1, V.2.2.2.1, V.2.2.2.2.1, V.2.2.2.2.2.1, V.2.2.2.2.2.2⟩, Lib.hid (HW.out.trans (kz.mono HW.out.size)), Lib.hid ⟨q', bb, kk, ee, fun e => ⟨(x1 e).1, (x1 e).2.1, (x1 e).2.2.1.below kz, (x1 e).2.2.2⟩, x2, x3, x4, fun _ => ⟨wy.heap.size, rfl, HW.out.size, fun _ => R2, fun e => absurd (x6 e) (by rw [hb]; decide)⟩, fun _ => rfl, x7⟩⟩
            · rintro b a wy hb hd ⟨z, z5, z6, z37, z45, z46, z47, rfl, HV, HW, HX⟩ K hK
              simp [Region.binds] at hd
              have dd11 : b 11 = true := by simp [hd]
              have dd9 : b 9 = true := by simp [hd]
              clear hd
              obtain ⟨q', bb, kk, ee, x1, x2, x3, x4, x5, x6, x7⟩ := HX.out
              obtain ⟨r, rfl, hlo, hr1, _⟩ := x5 dd11
              obtain ⟨d7, rfl⟩ := x3 dd9
              obtain ⟨hz7, hmv, hra, hfr⟩ := x1 d7
              have hr := hr1 hb
              have HRO := Lib.hid hr
              have HU := Lib.hid (setRow_but wy r #[.slice (some ⟨kk, 0, none⟩) n ee, .slice (some ⟨b2, 0, none⟩) n c2, .int .i64 (q'.first : Int), .int .i64 (q'.next : Int), .int .i64 (q'.asked : Int), .slice (some ⟨g1, 0, none⟩) n1 d1, .slice (some ⟨g3, 0, none⟩) n2 d3, .slice (some ⟨h1, 0, none⟩) n1 f1, .slice (some ⟨h3, 0, none⟩) n2 f3])
              have HA3 := Lib.hid (setRow_row [.slice (some ⟨kk, 0, none⟩) n ee, .slice (some ⟨b2, 0, none⟩) n c2, .int .i64 (q'.first : Int), .int .i64 (q'.next : Int), .int .i64 (q'.asked : Int), .slice (some ⟨g1, 0, none⟩) n1 d1, .slice (some ⟨g3, 0, none⟩) n2 d3, .slice (some ⟨h1, 0, none⟩) n1 f1, .slice (some ⟨h3, 0, none⟩) n2 f3] hr)
              have ho := RAt.off_row hra hr
              have HRA := Lib.hid (RAt.butL hra HU.out ho.1 ho.2)
              have HD := Lib.hid (And.intro d7 (And.intro dd9 (And.intro dd11 (And.intro hlo (And.intro hz7 (And.intro hmv hfr))))))
              have HXX := Lib.hid (And.intro x2 (And.intro x4 x7))
              clear x1 x2 x3 x4 x5 x6 x7 hr hr1 hlo d7 hz7 hmv hra hfr dd9 dd11 ho HX
              refine if_wanted (by rfl) (wp_store_row 57 (.tmp 5) (.tmp 46) rfl r #[.slice (some ⟨kk, 0, none⟩) n ee, .slice (some ⟨b2, 0, none⟩) n c2, .int .i64 (q'.first : Int), .int .i64 (q'.next : Int), .int .i64 (q'.asked : Int), .slice (some ⟨g1, 0, none⟩) n1 d1, .slice (some ⟨g3, 0, none⟩) n2 d3, .slice (some ⟨h1, 0, none⟩) n1 f1, .slice (some ⟨h3, 0, none⟩) n2 f3] rfl rfl _ _ HRO.out state_size rfl (by simp [Value.oneCell']) ?_)
              have V := HV.out
              exact hK _ _ ⟨fun s => z s, _, _, _, _, _, _, rfl, Lib.hid ⟨V.1, V.2.1, V.2.2.1, V.2.2.2.1, V.2.2.2.2.1, V.2.2.2.2.2.1, V.2.2.2.2.2.2⟩, Lib.hid (HW.out.trans (HU.out.below (B := w5.heap.size) (by simp; exact HD.out.2.2.2.1) HW.out.size)), Lib.hid ⟨q', bb, kk, ee, fun _ => ⟨HD.out.2.2.2.2.1, HD.out.2.2.2.2.2.1, HRA.out, HD.out.2.2.2.2.2.2⟩, HXX.out.1, fun _ => ⟨HD.out.1, rfl⟩, HXX.out.2.1, fun _ => ⟨r, rfl, HD.out.2.2.2.1, fun e => (by cases e), fun _ => ⟨HD.out.2.1, HA3.out⟩⟩, fun _ => HD.out.2.2.1, HXX.out.2.2⟩⟩
            · rintro b a wy hb hd ⟨z, z5, z6, z37, z45, z46, z47, rfl, HV, HW, HX⟩ K hK
              simp [Region.binds] at hd
              have dd10 : b 10 = true := by simp [hd]
              clear hd
              obtain ⟨q', bb, kk, ee, x1, x2, x3, x4, x5, x6, x7⟩ := HX.out
              obtain ⟨d7, rfl⟩ := x4 dd10
              obtain ⟨rfl, hmv, hra, hfr⟩ := x1 d7
              go_simp
              have V := HV.out
              exact hK _ _ ⟨fun s => z s, _, _, _, _, _, _, rfl, Lib.hid ⟨V.1, V.2.1, V.2.2.1, V.2.2.2.1, V.2.2.2.2.1, V.2.2.2.2.2.1, V.2.2.2.2.2.2⟩, HW, Lib.hid ⟨q', bb, kk, ee, fun _ => ⟨rfl, hmv, hra, hfr⟩, x2, x3, fun _ => ⟨d7, rfl⟩, x5, x6, fun _ => ⟨d7, rfl⟩⟩⟩
          case doneR5 =>
            rintro b a w6 hb ⟨z, z5, z6, z37, z45, z46, z47, rfl, HV, HW, HX⟩
            have e0 := (HV.out.1) (hb 0)
            have e1 := (HV.out.2.1) (hb 1)
            have e2 := (HV.out.2.2.1) (hb 2)
            have e3 := (HV.out.2.2.2.1) (hb 3)
            have e4 := (HV.out.2.2.2.2.1) (hb 4)
            have e5 := (HV.out.2.2.2.2.2.1) (hb 5)
            have e6 := (HV.out.2.2.2.2.2.2) (hb 6)
            simp only [e0, e1, e2, e3, e4, e5, e6]
            clear HV e0 e1 e2 e3 e4 e5 e6
            obtain ⟨q', bb, kk, ee, x1, x2, x3, x4, x5, _, x7⟩ := HX.out
            obtain ⟨rfl, hmv, hra, hfr⟩ := x1 (hb 7)
            obtain ⟨_, rfl⟩ := x2 (hb 8)
            obtain ⟨_, rfl⟩ := x3 (hb 9)
            obtain ⟨_, rfl⟩ := x4 (hb 10)
            obtain ⟨_, rfl⟩ := x7 (hb 13)
            obtain ⟨r, rfl, hlo, _, hr⟩ := x5 (hb 11)
            have hr := (hr (hb 12)).2
            have hlt3 := HRW3.out.lt
            have HMV := Lib.hid hmv
            have HRA := Lib.hid hra
            have HKK := Lib.hid (show kk ≠ g1 ∧ kk ≠ g3 ∧ kk ≠ h1 ∧ kk ≠ h3 by omega)
            have HZR := Lib.hid hr
            have HRW4 := Lib.hid (HRW3.out.below HW.out)
            have HY4 := Lib.hid (HY3.out.below HY3.out.lt HW.out)
            have HC4 := Lib.hid (HC3.out.trans (ButL.of_below [g1, g3, h1, h3] HW.out (Nat.le_refl _)))
            have HRY := Lib.hid (show r ≠ Y ∧ B ≤ r from ⟨by have := HY3.out.lt; omega, by have := HC3.out.size; have := HBB.out; omega⟩)
            clear x1 x2 x3 x4 x5 x7 hmv hra hfr hlo hr hlt3 HX HW hb HX3 HY3 HRW3 HC3
            have c5 := HZR.out.cellAt (i := 5) rfl
            have c7 := HZR.out.cellAt (i := 7) rfl
            have hki1 : (k : Int) < (n1 : Int) := by omega
            have fzg : w6.frozen? ⟨g1, k, none⟩ = false := (by obtain ⟨sp, hh⟩ := HRW4.out.r1; exact hh.free k)
            have cgo : w6.cell? ⟨g1, k, none⟩ = some (.int .i64 ((x.l1.getD k 0 : Nat) : Int)) := (by obtain ⟨sp, hh⟩ := HRW4.out.r1; exact row_int hh HKL.out)
            have HP1 := Lib.hid (HRW4.out.put1 (i := k) (b := bb) HRA.out HKK.out HKL.out HL.out.2.2.1)
            have fzh : (w6.setCell ⟨g1, k, none⟩ (.int .i64 (bb : Int))).frozen? ⟨h1, k, none⟩ = false := (by obtain ⟨sp, hh⟩ := HP1.out.1.t1; have := hh.free k; simpa using this)
            have cho : ∃ v, (w6.setCell ⟨g1, k, none⟩ (.int .i64 (bb : Int))).cell? ⟨h1, k, none⟩ = some v := (by obtain ⟨sp, hh⟩ := (exU HRW4.out.t1 (ButL.set w6 g1 k (.int .i64 (bb : Int))) (by simp; exact Ne.symm (HRW4.out.off_gh).1)); exact ⟨_, row_bool hh (by have := HL.out; have := HKL.out; omega)⟩)
            obtain ⟨vo, cho⟩ := cho
            have c7b : (w6.setCell ⟨g1, k, none⟩ (.int .i64 (bb : Int))).cell? ⟨r, 7, none⟩ = _ := (RowV.butL HZR.out (ButL.set w6 g1 k (.int .i64 (bb : Int))) (Ne.symm (exNe HRW4.out.r1 HZR.out (by decide)))).cellAt (i := 7) rfl
            go_upto_region 8 with (fail)
            have HRZ := Lib.hid ((RowV.butL HZR.out (ButL.set w6 g1 k (.int .i64 (bb : Int))) (Ne.symm (exNe HRW4.out.r1 HZR.out (by decide)))))
            have HZ7 := Lib.hid (HZR.out.block (HP1.out.2.block _ HZR.out.lt (by simp; exact ⟨Ne.symm (exNe HRW4.out.r1 HZR.out (by decide)), Ne.symm (exNe HRW4.out.t1 HZR.out (by decide))⟩)))
            have HY7 := Lib.hid (HY4.out.block (HP1.out.2.block _ HY4.out.lt (by simp; exact ⟨Ne.symm (exNe HRW4.out.r1 HY4.out (by decide)), Ne.symm (exNe HRW4.out.t1 HY4.out (by decide))⟩)))
            have HRW7 := Lib.hid HP1.out.1
            have HC7 := Lib.hid (HC4.out.trans (HP1.out.2.mono (M := [g1, g3, h1, h3]) (by simp)))
            clear c5 c7 hki1 fzg cgo HP1 fzh cho c7b HRZ HRW4 HY4 HC4 HRA HZR
            generalize (w6.setCell ⟨g1, k, none⟩ (.int .i64 (bb : Int))).setCell ⟨h1, k, none⟩ (.bool true) = w7 at *
            have HSZ := Lib.hid state_size
            go_wp2_with (first
              | (refine wpList_load_row rfl 57 (.tmp 5) rfl r rfl _ #[.slice (some ⟨kk, 0, none⟩) n ee, .slice (some ⟨b2, 0, none⟩) n c2, .int .i64 (q'.first : Int), .int .i64 (q'.next : Int), .int .i64 (q'.asked : Int), .slice (some ⟨g1, 0, none⟩) n1 d1, .slice (some ⟨g3, 0, none⟩) n2 d3, .slice (some ⟨h1, 0, none⟩) n1 f1, .slice (some ⟨h3, 0, none⟩) n2 f3] _ _ HZ7.out Try.underlying57 rfl HSZ.out ?_)
              | (refine wpList_store_row rfl 57 (.tmp 2) (.tmp 58) rfl Y #[.slice (some ⟨kk, 0, none⟩) n ee, .slice (some ⟨b2, 0, none⟩) n c2, .int .i64 (q'.first : Int), .int .i64 (q'.next : Int), .int .i64 (q'.asked : Int), .slice (some ⟨g1, 0, none⟩) n1 d1, .slice (some ⟨g3, 0, none⟩) n2 d3, .slice (some ⟨h1, 0, none⟩) n1 f1, .slice (some ⟨h3, 0, none⟩) n2 f3] rfl rfl _ _ HY7.out HSZ.out rfl (by simp [Value.oneCell']) ?_)
              | fail)
            have HY8 := Lib.hid (setRow_row [.slice (some ⟨kk, 0, none⟩) n ee, .slice (some ⟨b2, 0, none⟩) n c2, .int .i64 (q'.first : Int), .int .i64 (q'.next : Int), .int .i64 (q'.asked : Int), .slice (some ⟨g1, 0, none⟩) n1 d1, .slice (some ⟨g3, 0, none⟩) n2 d3, .slice (some ⟨h1, 0, none⟩) n1 f1, .slice (some ⟨h3, 0, none⟩) n2 f3] HY7.out)
            have HRW8 := Lib.hid (HRW7.out.row HY7.out (setRow_but w7 Y #[.slice (some ⟨kk, 0, none⟩) n ee, .slice (some ⟨b2, 0, none⟩) n c2, .int .i64 (q'.first : Int), .int .i64 (q'.next : Int), .int .i64 (q'.asked : Int), .slice (some ⟨g1, 0, none⟩) n1 d1, .slice (some ⟨g3, 0, none⟩) n2 d3, .slice (some ⟨h1, 0, none⟩) n1 f1, .slice (some ⟨h3, 0, none⟩) n2 f3]) (by decide) (by decide))
            have HC8 := Lib.hid (HC7.out.join (setRow_but w7 Y #[.slice (some ⟨kk, 0, none⟩) n ee, .slice (some ⟨b2, 0, none⟩) n c2, .int .i64 (q'.first : Int), .int .i64 (q'.next : Int), .int .i64 (q'.asked : Int), .slice (some ⟨g1, 0, none⟩) n1 d1, .slice (some ⟨g3, 0, none⟩) n2 d3, .slice (some ⟨h1, 0, none⟩) n1 f1, .slice (some ⟨h3, 0, none⟩) n2 f3]) (by simp; exact .inr HXY.out.2.2))
            have HST := Lib.hid (show x.Step (x.mv1 k bb q') from Wk.Step.one k bb q' (FirstP.yes HAS.out HNO.out) (by rw [← HOL.out]; exact HMV.out))
            refine bodyPost_ret (v := .tuple #[.agg #[.slice (some ⟨kk, 0, none⟩) n ee, .slice (some ⟨b2, 0, none⟩) n c2, .int .i64 (q'.first : Int), .int .i64 (q'.next : Int), .int .i64 (q'.asked : Int), .slice (some ⟨g1, 0, none⟩) n1 d1, .slice (some ⟨g3, 0, none⟩) n2 d3, .slice (some ⟨h1, 0, none⟩) n1 f1, .slice (some ⟨h3, 0, none⟩) n2 f3], .bool true]) ?_ rfl ⟨true, kk, ee, x.mv1 k bb q', rfl, fun _ => HST.out, fun e => (by cases e), HRW8.out, HC8.out⟩
            clear HRW8 HC8 HST
            have r0 := HY8.out.cellAt (i := 0) rfl
            have r1 := HY8.out.cellAt (i := 1) rfl
            have r2 := HY8.out.cellAt (i := 2) rfl
            have r3 := HY8.out.cellAt (i := 3) rfl
            have r4 := HY8.out.cellAt (i := 4) rfl
            have r5 := HY8.out.cellAt (i := 5) rfl
            have r6 := HY8.out.cellAt (i := 6) rfl
            have r7 := HY8.out.cellAt (i := 7) rfl
            have r8 := HY8.out.cellAt (i := 8) rfl
            rw [results_cell_tmp rfl]
            go_simp
    · have hki : ¬ (k : Int) < (n1 : Int) := by omega
      obtain rfl : n1 = k := by omega
      have HONE := Lib.hid (noP_all (fun j hj => HNO.out j (by rw [← HL.out.1]; exact hj)))
      clear HX HY HRW HB HNO hgg
      go_wp2_with fail
      clear a0 a1 a2 a3 a4 a5 a6 a7 a8
      obtain ⟨wL, hwL⟩ : ∃ wL, wL = wr := ⟨_, rfl⟩
      subst hwL
      have HX := HX2
      have HY := HY2
      have HRW := HRW2
      have HB := HC2
      clear HX2 HY2 HRW2 HC2 HB2
      go_loopg [7] n2 (fun gg sI wr => ∃ k : Nat, k ≤ n2 ∧ gg = n2 - k ∧ sI = .int .i64 (k : Int) ∧ Hid (∀ j, j < k → ¬ askP x.l2 x.f2 x.S2 j) ∧ Hid (Below wL.heap.size wL wr))
      case atStart => exact ⟨0, Nat.zero_le _, rfl, rfl, Lib.hid (fun j h => by omega), Lib.hid (Below.refl _ _)⟩
      case round =>
        obtain ⟨k, hk, hgg, rfl, HNO, HB2⟩ := hrel
        have HX2 := Lib.hid (HX.out.below HX.out.lt HB2.out)
        have HY2 := Lib.hid (HY.out.below HY.out.lt HB2.out)
        have HRW2 := Lib.hid (HRW.out.below HB2.out)
        have HC2 := Lib.hid (HB.out.trans (ButL.of_below [g1, g3, h1, h3] HB2.out (Nat.le_refl _)))
        have a0 := HX2.out.cellAt (i := 0) rfl
        have a1 := HX2.out.cellAt (i := 1) rfl
        have a2 := HX2.out.cellAt (i := 2) rfl
        have a3 := HX2.out.cellAt (i := 3) rfl
        have a4 := HX2.out.cellAt (i := 4) rfl
        have a5 := HX2.out.cellAt (i := 5) rfl
        have a6 := HX2.out.cellAt (i := 6) rfl
        have a7 := HX2.out.cellAt (i := 7) rfl
        have a8 := HX2.out.cellAt (i := 8) rfl
        by_cases hlt : k < n2
        · have hki : (k : Int) < (n2 : Int) := by omega
          have hkl : k < x.l2.length := by have := HL.out; omega
          have cf : wr.cell? ⟨h3, k, none⟩ = some (.bool (x.f2.getD k false)) := (by obtain ⟨sp, hh⟩ := HRW2.out.t3; exact row_bool hh (by have := HL.out; omega))
          have cl : wr.cell? ⟨g3, k, none⟩ = some (.int .i64 ((x.l2.getD k 0 : Nat) : Int)) := (by obtain ⟨sp, hh⟩ := HRW2.out.r3; exact row_int hh hkl)
          obtain ⟨old, hold⟩ : ∃ old, old = x.l2.getD k 0 := ⟨_, rfl⟩
          rw [← hold] at cl
          have HOL := Lib.hid hold
          have HKL := Lib.hid hkl
          clear hold hkl
          go_upto_region 12 with (fail)
          go_cut [85] (fun sA wx => ∃ r : Bool, sA = .bool r ∧ Hid (r = true ↔ askP x.l2 x.f2 x.S2 k) ∧ Hid (Below wr.heap.size wr wx))
          case first =>
            cases hfk : x.f2.getD k false
            · rw [hfk] at cf
              have HFK := Lib.hid hfk
              clear hfk
              by_cases ho0 : old = 0
              · subst ho0
                go_wp2_with fail
                go_meet
                exact ⟨true, rfl, Lib.hid ⟨fun _ => ⟨HKL.out, HFK.out, .inl HOL.out.symm⟩, fun _ => rfl⟩, Lib.hid (Below.refl _ _)⟩
              · have hoi : ((old : Int) == 0) = false := beq_eq_false_iff_ne.2 (by omega)
                have HO0 := Lib.hid ho0
                clear ho0
                go_wp2_with fail
                (obtain ⟨sp9, hh9⟩ := HRW2.out.t1; have hl9 : x.f1.length = n1 := (by have := HL.out; omega); refine (rtells_is hh9 hle1 hl9 _ _ _ _ _ _ _ _ _ _ k (by omega)).mono ?_; clear hh9 hl9)
                rintro e w3 ⟨r, rfl, hr, bz⟩
                have HR := Lib.hid hr
                have HBZ := Lib.hid bz
                clear hr bz
                go_wp2_with fail
                go_meet
                refine ⟨r, rfl, Lib.hid ⟨fun e => ⟨HKL.out, HFK.out, .inr (HR.out.1 e)⟩, fun hh => ?_⟩, HBZ⟩
                rcases hh.2.2 with h1 | h1
                · exact absurd (HOL.out.trans h1) HO0.out
                · exact HR.out.2 h1
            · rw [hfk] at cf
              have HFK := Lib.hid hfk
              clear hfk
              go_wp2_with fail
              go_meet
              exact ⟨false, rfl, Lib.hid ⟨fun e => (by cases e), fun hh => absurd (hh.2.1.symm.trans HFK.out) (by decide)⟩, Lib.hid (Below.refl _ _)⟩
          case rest =>
            obtain ⟨r, rfl, HR, HBW⟩ := hcut
            cases r
            · have HNA := Lib.hid (fun hh => absurd (HR.out.2 hh) (by decide) : ¬ askP x.l2 x.f2 x.S2 k)
              have HB9 := Lib.hid (HB2.out.trans (HBW.out.mono HB2.out.size))
              clear HR a0 a1 a2 a3 a4 a5 a6 a7 a8 cf cl HX2 HY2 HRW2 HC2
              go_wp2_with fail
              go_roundg (n2 - (k + 1))
              case measure => omega
              case rel => exact ⟨k + 1, by omega, rfl, by go_num, Lib.hid (noP_succ HNO.out HNA.out), HB9⟩
            · have HAS := Lib.hid (HR.out.1 rfl)
              have HX3 := Lib.hid (HX2.out.below HX2.out.lt HBW.out)
              have HY3 := Lib.hid (HY2.out.below HY2.out.lt HBW.out)
              have HRW3 := Lib.hid (HRW2.out.below HBW.out)
              have HC3 := Lib.hid (HC2.out.trans (ButL.of_below [g1, g3, h1, h3] HBW.out (Nat.le_refl _)))
              have HM1 := Lib.hid (HG.out.may2 HAS.out.1 HAS.out.2.1)
              have HRM := Lib.hid (HG.out.room2 HAS.out.1 HAS.out.2.1)
              rw [← HOL.out] at HM1
              clear HR a0 a1 a2 a3 a4 a5 a6 a7 a8 cf cl HX2 HY2 HRW2 HC2 HB2 HBW
              go_upto_region 13 with (fail)
              obtain ⟨w5, hw5⟩ : ∃ w5, w5 = wc := ⟨_, rfl⟩
              rw [← hw5] at HX3 HY3 HRW3 HC3 ⊢
              clear hw5
              refine Inv2.wp_region_inv (fun b a wy => ∃ (z : Nat → Value) (z8 : Value) (z9 : Value) (z86 : Value) (z94 : Value) (z95 : Value) (z96 : Value), a = ⟨(List.toArray (.agg #[.slice (some ⟨b1, 0, none⟩) n c1, .slice (some ⟨b2, 0, none⟩) n c2, .int .i64 (x.q.first : Int), .int .i64 (x.q.next : Int), .int .i64 (x.q.asked : Int), .slice (some ⟨g1, 0, none⟩) n1 d1, .slice (some ⟨g3, 0, none⟩) n2 d3, .slice (some ⟨h1, 0, none⟩) n1 f1, .slice (some ⟨h3, 0, none⟩) n2 f3] :: .pointer (some ⟨X, 0, none⟩) :: .pointer (some ⟨Y, 0, none⟩) :: u3 :: .int .i64 (n1 : Int) :: u5 :: u6 :: .int .i64 (k : Int) :: z8 :: z9 :: .int .i64 (n1 : Int) :: .pointer (some ⟨X, 7, none⟩) :: .slice (some ⟨h1, 0, none⟩) n1 f1 :: .int .i64 (n1 : Int) :: .bool false :: u15 :: u16 :: u17 :: u18 :: u19 :: u20 :: u21 :: u22 :: u23 :: u24 :: u25 :: u26 :: u27 :: u28 :: u29 :: u30 :: u31 :: u32 :: u33 :: u34 :: u35 :: u36 :: u37 :: u38 :: u39 :: u40 :: u41 :: u42 :: u43 :: u44 :: u45 :: u46 :: u47 :: u48 :: u49 :: u50 :: u51 :: u52 :: u53 :: u54 :: u55 :: u56 :: u57 :: u58 :: u59 :: u60 :: u61 :: u62 :: u63 :: u64 :: u65 :: u66 :: u67 :: u68 :: u69 :: u70 :: u71 :: u72 :: u73 :: u74 :: u75 :: u76 :: u77 :: u78 :: u79 :: u80 :: u81 :: u82 :: u83 :: u84 :: .bool true :: z86 :: (z 87) :: (z 88) :: (z 89) :: (z 90) :: (z 91) :: (z 92) :: (z 93) :: z94 :: z95 :: z96 :: u97 :: u98 :: u99 :: u100 :: u101 :: u102 :: u103 :: u104 :: u105 :: u106 :: u107 :: undef :: [])), []⟩ ∧ Hid ((b 0 = true → (z 87) = .agg #[.slice (some ⟨b1, 0, none⟩) n c1, .slice (some ⟨b2, 0, none⟩) n c2, .int .i64 (x.q.first : Int), .int .i64 (x.q.next : Int), .int .i64 (x.q.asked : Int), .slice (some ⟨g1, 0, none⟩) n1 d1, .slice (some ⟨g3, 0, none⟩) n2 d3, .slice (some ⟨h1, 0, none⟩) n1 f1, .slice (some ⟨h3, 0, none⟩) n2 f3]) ∧ (b 1 = true → (z 88) = .pointer (some ⟨X, 5, none⟩)) ∧ (b 2 = true → (z 89) = .pointer (some ⟨X, 6, none⟩)) ∧ (b 3 = true → (z 90) = .slice (some ⟨g3, 0, none⟩) n2 d3) ∧ (b 4 = true → (z 91) = .int .i64 (k : Int)) ∧ (b 5 = true → (z 92) = .pointer (some ⟨g3, k, none⟩)) ∧ (b 6 = true → (z 93) = .int .i64 (old : Int))) ∧ Hid (Below w5.heap.size w5 wy) ∧ Hid (∃ (q' : Q) (bb kk ee : Nat), (b 7 = true → z94 = .tuple #[.agg #[.slice (some ⟨kk, 0, none⟩) n ee, .slice (some ⟨b2, 0, none⟩) n c2, .int .i64 (q'.first : Int), .int .i64 (q'.next : Int), .int .i64 (q'.asked : Int), .slice (some ⟨g1, 0, none⟩) n1 d1, .slice (some ⟨g3, 0, none⟩) n2 d3, .slice (some ⟨h1, 0, none⟩) n1 f1, .slice (some ⟨h3, 0, none⟩) n2 f3], .int .i64 (bb : Int)] ∧ Moved x.q old q' bb ∧ RAt wy kk ee b2 c2 q'.s ∧ w5.heap.size ≤ kk) ∧ (b 8 = true → b 7 = true ∧ z86 = .tuple #[.agg #[.slice (some ⟨kk, 0, none⟩) n ee, .slice (some ⟨b2, 0, none⟩) n c2, .int .i64 (q'.first : Int), .int .i64 (q'.next : Int), .int .i64 (q'.asked : Int), .slice (some ⟨g1, 0, none⟩) n1 d1, .slice (some ⟨g3, 0, none⟩) n2 d3, .slice (some ⟨h1, 0, none⟩) n1 f1, .slice (some ⟨h3, 0, none⟩) n2 f3], .int .i64 (bb : Int)]) ∧ (b 9 = true → b 7 = true ∧ z95 = .agg #[.slice (some ⟨kk, 0, none⟩) n ee, .slice (some ⟨b2, 0, none⟩) n c2, .int .i64 (q'.first : Int), .int .i64 (q'.next : Int), .int .i64 (q'.asked : Int), .slice (some ⟨g1, 0, none⟩) n1 d1, .slice (some ⟨g3, 0, none⟩) n2 d3, .slice (some ⟨h1, 0, none⟩) n1 f1, .slice (some ⟨h3, 0, none⟩) n2 f3]) ∧ (b 10 = true → b 7 = true ∧ z96 = .int .i64 (bb : Int)) ∧ (b 11 = true → ∃ r, z8 = .pointer (some ⟨r, 0, none⟩) ∧ w5.heap.size ≤ r ∧ (b 12 = false → RowV wy r 57 [.slice none 0 0, .slice none 0 0, .int .i64 0, .int .i64 0, .int .i64 0, .slice none 0 0, .slice none 0 0, .slice none 0 0, .slice none 0 0]) ∧ (b 12 = true → b 9 = true ∧ RowV wy r 57 [.slice (some ⟨kk, 0, none⟩) n ee, .slice (some ⟨b2, 0, none⟩) n c2, .int .i64 (q'.first : Int), .int .i64 (q'.next : Int), .int .i64 (q'.asked : Int), .slice (some ⟨g1, 0, none⟩) n1 d1, .slice (some ⟨g3, 0, none⟩) n2 d3, .slice (some ⟨h1, 0, none⟩) n1 f1, .slice (some ⟨h3, 0, none⟩) n2 f3])) ∧ (b 12 = true → b 11 = true) ∧ (b 13 = true → b 7 = true ∧ z9 = .int .i64 (bb : Int)))) (by kernel_rfl) (by kernel_rfl) ?startR13 ?stepsR13 ?doneR13
              case startR13 =>
                intro b hb
                refine ⟨fun s => if s = 87 then u87 else if s = 88 then u88 else if s = 89 then u89 else if s = 90 then u90 else if s = 91 then u91 else if s = 92 then u92 else if s = 93 then u93 else undef, u8, u9, u86, u94, u95, u96, rfl, Lib.hid ⟨?_, ?_, ?_, ?_, ?_, ?_, ?_⟩, Lib.hid ((show Still w5 w5.drew from ⟨rfl, rfl, rfl, rfl⟩).below _), Lib.hid (⟨x.q, 0, 0, 0, (fun e => by rw [hb _ (by decide)] at e; cases e), (fun e => by rw [hb _ (by decide)] at e; cases e), (fun e => by rw [hb _ (by decide)] at e; cases e), (fun e => by rw [hb _ (by decide)] at e; cases e), (fun e => by rw [hb _ (by decide)] at e; cases e), (fun e => by rw [hb _ (by decide)] at e; cases e), (fun e => by rw [hb _ (by decide)] at e; cases e)⟩)⟩
                all_goals (intro e; first | rfl | (rw [hb _ (by decide)] at e; cases e))
              case stepsR13 =>
                refine ⟨?_, ?_, ?_, ?_, ?_, ?_, ?_, ?_, ?_, ?_, ?_, ?_, ?_, ?_, trivial⟩
                · rintro b a wy hb hd ⟨z, z8, z9, z86, z94, z95, z96, rfl, HV, HW, HX⟩ K hK
                  clear hd
                  have cc0 := (HX3.out.below HX3.out.lt HW.out).cellAt (i := 0) rfl
                  have cc1 := (HX3.out.below HX3.out.lt HW.out).cellAt (i := 1) rfl
                  have cc2 := (HX3.out.below HX3.out.lt HW.out).cellAt (i := 2) rfl
                  have cc3 := (HX3.out.below HX3.out.lt HW.out).cellAt (i := 3) rfl
                  have cc4 := (HX3.out.below HX3.out.lt HW.out).cellAt (i := 4) rfl
                  have cc5 := (HX3.out.below HX3.out.lt HW.out).cellAt (i := 5) rfl
                  have cc6 := (HX3.out.below HX3.out.lt HW.out).cellAt (i := 6) rfl
                  have cc7 := (HX3.out.below HX3.out.lt HW.out).cellAt (i := 7) rfl
                  have cc8 := (HX3.out.below HX3.out.lt HW.out).cellAt (i := 8) rfl
                  go_simp
                  have V := HV.out
                  exact hK _ _ ⟨fun s => if s = 87 then .agg #[.slice (some ⟨b1, 0, none⟩) n c1, .slice (some ⟨b2, 0, none⟩) n c2, .int .i64 (x.q.first : Int), .int .i64 (x.q.next : Int), .int .i64 (x.q.asked : Int), .slice (some ⟨g1, 0, none⟩) n1 d1, .slice (some ⟨g3, 0, none⟩) n2 d3, .slice (some ⟨h1, 0, none⟩) n1 f1, .slice (some ⟨h3, 0, none⟩) n2 f3] else z s, _, _, _, _, _, _, rfl, Lib.hid ⟨fun _ => rfl, V.2.1, V.2.2.1, V.2.2.2.1, V.2.2.2.2.1, V.2.2.2.2.2.1, V.2.2.2.2.2.2⟩, HW, HX⟩
                · rintro b a wy hb hd ⟨z, z8, z9, z86, z94, z95, z96, rfl, HV, HW, HX⟩ K hK
                  clear hd
                  go_simp
                  have V := HV.out
                  exact hK _ _ ⟨fun s => if s = 88 then .pointer (some ⟨X, 5, none⟩) else z s, _, _, _, _, _, _, rfl, Lib.hid ⟨V.1, fun _ => rfl, V.2.2.1, V.2.2.2.1, V.2.2.2.2.1, V.2.2.2.2.2.1, V.2.2.2.2.2.2⟩, HW, HX⟩
                · rintro b a wy hb hd ⟨z, z8, z9, z86, z94, z95, z96, rfl, HV, HW, HX⟩ K hK
                  simp [Region.binds] at hd
                  have e1 : (z 88) = .pointer (some ⟨X, 5, none⟩) := (HV.out.2.1) (by simp [hd])
                  clear hd
                  go_simp
                  have V := HV.out
                  exact hK _ _ ⟨fun s => if s = 89 then .pointer (some ⟨X, 6, none⟩) else if s = 88 then .pointer (some ⟨X, 5, none⟩) else z s, _, _, _, _, _, _, rfl, Lib.hid ⟨V.1, fun _ => rfl, fun _ => rfl, V.2.2.2.1, V.2.2.2.2.1, V.2.2.2.2.2.1, V.2.2.2.2.2.2⟩, HW, HX⟩
                · rintro b a wy hb hd ⟨z, z8, z9, z86, z94, z95, z96, rfl, HV, HW, HX⟩ K hK
                  simp [Region.binds] at hd
                  have e2 : (z 89) = .pointer (some ⟨X, 6, none⟩) := (HV.out.2.2.1) (by simp [hd])
                  clear hd
                  have cc6 := (HX3.out.below HX3.out.lt HW.out).cellAt (i := 6) rfl
                  go_simp
                  have V := HV.out
                  exact hK _ _ ⟨fun s => if s = 90 then .slice (some ⟨g3, 0, none⟩) n2 d3 else if s = 89 then .pointer (some ⟨X, 6, none⟩) else z s, _, _, _, _, _, _, rfl, Lib.hid ⟨V.1, V.2.1, fun _ => rfl, fun _ => rfl, V.2.2.2.2.1, V.2.2.2.2.2.1, V.2.2.2.2.2.2⟩, HW, HX⟩
                · rintro b a wy hb hd ⟨z, z8, z9, z86, z94, z95, z96, rfl, HV, HW, HX⟩ K hK
                  clear hd
                  go_simp
                  have V := HV.out
                  exact hK _ _ ⟨fun s => if s = 91 then .int .i64 (k : Int) else z s, _, _, _, _, _, _, rfl, Lib.hid ⟨V.1, V.2.1, V.2.2.1, V.2.2.2.1, fun _ => rfl, V.2.2.2.2.2.1, V.2.2.2.2.2.2⟩, HW, HX⟩
                · rintro b a wy hb hd ⟨z, z8, z9, z86, z94, z95, z96, rfl, HV, HW, HX⟩ K hK
                  simp [Region.binds] at hd
                  have e3 : (z 90) = .slice (some ⟨g3, 0, none⟩) n2 d3 := (HV.out.2.2.2.1) (by simp [hd])
                  have e4 : (z 91) = .int .i64 (k : Int) := (HV.out.2.2.2.2.1) (by simp [hd])
                  clear hd
                  go_simp
                  have V := HV.out
                  exact hK _ _ ⟨fun s => if s = 92 then .pointer (some ⟨g3, k, none⟩) else if s = 90 then .slice (some ⟨g3, 0, none⟩) n2 d3 else if s = 91 then .int .i64 (k : Int) else z s, _, _, _, _, _, _, rfl, Lib.hid ⟨V.1, V.2.1, V.2.2.1, fun _ => rfl, fun _ => rfl, fun _ => rfl, V.2.2.2.2.2.2⟩, HW, HX⟩
                · rintro b a wy hb hd ⟨z, z8, z9, z86, z94, z95, z96, rfl, HV, HW, HX⟩ K hK
                  simp [Region.binds] at hd
                  have e5 : (z 92) = .pointer (some ⟨g3, k, none⟩) := (HV.out.2.2.2.2.2.1) (by simp [hd])
                  clear hd
                  have cl : wy.cell? ⟨g3, k, none⟩ = some (.int .i64 (old : Int)) := (by obtain ⟨sp, hh⟩ := (HRW3.out.below HW.out).r3; rw [HOL.out]; exact row_int hh HKL.out)
                  go_simp
                  have V := HV.out
                  exact hK _ _ ⟨fun s => if s = 93 then .int .i64 (old : Int) else if s = 92 then .pointer (some ⟨g3, k, none⟩) else z s, _, _, _, _, _, _, rfl, Lib.hid ⟨V.1, V.2.1, V.2.2.1, V.2.2.2.1, V.2.2.2.2.1, fun _ => rfl, fun _ => rfl⟩, HW, HX⟩
                · rintro b a wy hb hd ⟨z, z8, z9, z86, z94, z95, z96, rfl, HV, HW, HX⟩ K hK
                  simp [Region.binds] at hd
                  have e0 : (z 87) = .agg #[.slice (some ⟨b1, 0, none⟩) n c1, .slice (some ⟨b2, 0, none⟩) n c2, .int .i64 (x.q.first : Int), .int .i64 (x.q.next : Int), .int .i64 (x.q.asked : Int), .slice (some ⟨g1, 0, none⟩) n1 d1, .slice (some ⟨g3, 0, none⟩) n2 d3, .slice (some ⟨h1, 0, none⟩) n1 f1, .slice (some ⟨h3, 0, none⟩) n2 f3] := (HV.out.1) (by simp [hd])
                  have e6 : (z 93) = .int .i64 (old : Int) := (HV.out.2.2.2.2.2.2) (by simp [hd])
                  clear hd
                  obtain ⟨q', bb, kk, ee, x1, x2, x3, x4, x5, x6, x7⟩ := HX.out
                  have HXX := Lib.hid (And.intro x5 x6)
                  have nb : ∀ j, (b j = true → b 7 = true) → ¬ b j = true := fun j h e => absurd (h e) (by rw [hb]; decide)
                  have NB := Lib.hid (And.intro (nb 8 fun e => (x2 e).1) (And.intro (nb 9 fun e => (x3 e).1) (And.intro (nb 10 fun e => (x4 e).1) (nb 13 fun e => (x7 e).1))))
                  clear x1 x2 x3 x4 x5 x6 x7 nb HX
                  go_simp
                  go_at_call 62
                  refine (rmoved_any (HRW3.out.below HW.out).rat HG.out.ok HN.out _ _ _ _ _ _ _ _ _ _ _ _ old HM1.out HRM.out).mono ?_
                  rintro e wz ⟨q', bb, kk, ee, rfl, hmv, hra, hfr, kz⟩
                  try go_simp
                  have V := HV.out
                  exact hK _ _ ⟨fun s => if s = 87 then .agg #[.slice (some ⟨b1, 0, none⟩) n c1, .slice (some ⟨b2, 0, none⟩) n c2, .int .i64 (x.q.first : Int), .int .i64 (x.q.next : Int), .int .i64 (x.q.asked : Int), .slice (some ⟨g1, 0, none⟩) n1 d1, .slice (some ⟨g3, 0, none⟩) n2 d3, .slice (some ⟨h1, 0, none⟩) n1 f1, .slice (some ⟨h3, 0, none⟩) n2 f3] else if s = 93 then .int .i64 (old : Int) else z s, _, _, _, _, _, _, rfl, Lib.hid ⟨fun _ => rfl, V.2.1, V.2.2.1, V.2.2.2.1, V.2.2.2.2.1, V.2.2.2.2.2.1, fun _ => rfl⟩, Lib.hid (HW.out.trans (kz.mono HW.out.size)), Lib.hid ⟨q', bb, kk, ee, fun _ => ⟨rfl, hmv, hra, Nat.le_trans HW.out.size hfr⟩, fun e => absurd e NB.out.1, fun e => absurd e NB.out.2.1, fun e => absurd e NB.out.2.2.1, fun e => (by obtain ⟨r, y1, y0, y2, y3⟩ := HXX.out.1 e; exact ⟨r, y1, y0, fun e2 => (y2 e2).below (y2 e2).lt kz, fun e2 => absurd (y3 e2).1 NB.out.2.1⟩), HXX.out.2, fun e => absurd e NB.out.2.2.2⟩⟩
                · rintro b a wy hb hd ⟨z, z8, z9, z86, z94, z95, z96, rfl, HV, HW, HX⟩ K hK
                  simp [Region.binds] at hd
                  have dd7 : b 7 = true := by simp [hd]
                  clear hd
                  obtain ⟨q', bb, kk, ee, x1, x2, x3, x4, x5, x6, x7⟩ := HX.out
                  obtain ⟨rfl, hmv, hra, hfr⟩ := x1 dd7
                  go_simp
                  have V := HV.out
                  exact hK _ _ ⟨fun s => z s, _, _, _, _, _, _, rfl, Lib.hid ⟨V.1, V.2.1, V.2.2.1, V.2.2.2.1, V.2.2.2.2.1, V.2.2.2.2.2.1, V.2.2.2.2.2.2⟩, HW, Lib.hid ⟨q', bb, kk, ee, fun _ => ⟨rfl, hmv, hra, hfr⟩, fun _ => ⟨dd7, rfl⟩, x3, x4, x5, x6, x7⟩⟩
                · rintro b a wy hb hd ⟨z, z8, z9, z86, z94, z95, z96, rfl, HV, HW, HX⟩ K hK
                  simp [Region.binds] at hd
                  have dd8 : b 8 = true := by simp [hd]
                  clear hd
                  obtain ⟨q', bb, kk, ee, x1, x2, x3, x4, x5, x6, x7⟩ := HX.out
                  obtain ⟨d7, rfl⟩ := x2 dd8
                  obtain ⟨rfl, hmv, hra, hfr⟩ := x1 d7
                  go_simp
                  have V := HV.out
                  exact hK _ _ ⟨fun s => z s, _, _, _, _, _, _, rfl, Lib.hid ⟨V.1, V.2.1, V.2.2.1, V.2.2.2.1, V.2.2.2.2.1, V.2.2.2.2.2.1, V.2.2.2.2.2.2⟩, HW, Lib.hid ⟨q', bb, kk, ee, fun _ => ⟨rfl, hmv, hra, hfr⟩, fun _ => ⟨d7, rfl⟩, fun _ => ⟨d7, rfl⟩, x4, fun e => (by obtain ⟨r, y1, y0, y2, y3⟩ := x5 e; exact ⟨r, y1, y0, y2, fun e2 => absurd (y3 e2).1 (by rw [hb]; decide)⟩), x6, x7⟩⟩
                · rintro b a wy hb hd ⟨z, z8, z9, z86, z94, z95, z96, rfl, HV, HW, HX⟩ K hK
                  simp [Region.binds] at hd
                  have dd8 : b 8 = true := by simp [hd]
                  clear hd
                  obtain ⟨q', bb, kk, ee, x1, x2, x3, x4, x5, x6, x7⟩ := HX.out
                  obtain ⟨d7, rfl⟩ := x2 dd8
                  obtain ⟨rfl, hmv, hra, hfr⟩ := x1 d7
                  go_simp
                  have V := HV.out
                  exact hK _ _ ⟨fun s => z s, _, _, _, _, _, _, rfl, Lib.hid ⟨V.1, V.2.1, V.2.2.1, V.2.2.2.1, V.2.2.2.2.1, V.2.2.2.2.2.1, V.2.2.2.2.2.2⟩, HW, Lib.hid ⟨q', bb, kk, ee, fun _ => ⟨rfl, hmv, hra, hfr⟩, fun _ => ⟨d7, rfl⟩, x3, fun _ => ⟨d7, rfl⟩, x5, x6, x7⟩⟩
                · rintro b a wy hb hd ⟨z, z8, z9, z86, z94, z95, z96, rfl, HV, HW, HX⟩ K hK
                  clear hd
                  obtain ⟨q', bb, kk, ee, x1, x2, x3, x4, x5, x6, x7⟩ := HX.out
                  have hz := state_zero wy
                  go_simp
                  have kz := (Below.refl wy.heap.size wy).alloc (Nat.le_refl _) (.cells #[.slice none 0 0, .slice none 0 0, .int .i64 0, .int .i64 0, .int .i64 0, .slice none 0 0, .slice none 0 0, .slice none 0 0, .slice none 0 0] 57)
                  have R2 := alloc_rowV wy 57 [.slice none 0 0, .slice none 0 0, .int .i64 0, .int .i64 0, .int .i64 0, .slice none 0 0, .slice none 0 0, .slice none 0 0, .slice none 0 0]
                  have V := HV.out
                  exact hK _ _ ⟨fun s => z s, _, _, _, _, _, _, rfl, Lib.hid ⟨V.1, V.2.1, V.2.2.1, V.2.2.2.1, V.2.2.2.2.1, V.2.2.2.2.2.1, V.2.2.2.2.2.2⟩, Lib.hid (HW.out.trans (kz.mono HW.out.size)), Lib.hid ⟨q', bb, kk, ee, fun e => ⟨(x1 e).1, (x1 e).2.1, (x1 e).2.2.1.below kz, (x1 e).2.2.2⟩, x2, x3, x4, fun _ => ⟨wy.heap.size, rfl, HW.out.size, fun _ => R2, fun e => absurd (x6 e) (by rw [hb]; decide)⟩, fun _ => rfl, x7⟩⟩
                · rintro b a wy hb hd ⟨z, z8, z9, z86, z94, z95, z96, rfl, HV, HW, HX⟩ K hK
                  simp [Region.binds] at hd
                  have dd11 : b 11 = true := by simp [hd]
                  have dd9 : b 9 = true := by simp [hd]
                  clear hd
                  obtain ⟨q', bb, kk, ee, x1, x2, x3, x4, x5, x6, x7⟩ := HX.out
                  obtain ⟨r, rfl, hlo, hr1, _⟩ := x5 dd11
                  obtain ⟨d7, rfl⟩ := x3 dd9
                  obtain ⟨hz7, hmv, hra, hfr⟩ := x1 d7
                  have hr := hr1 hb
                  have HRO := Lib.hid hr
                  have HU := Lib.hid (setRow_but wy r #[.slice (some ⟨kk, 0, none⟩) n ee, .slice (some ⟨b2, 0, none⟩) n c2, .int .i64 (q'.first : Int), .int .i64 (q'.next : Int), .int .i64 (q'.asked : Int), .slice (some ⟨g1, 0, none⟩) n1 d1, .slice (some ⟨g3, 0, none⟩) n2 d3, .slice (some ⟨h1, 0, none⟩) n1 f1, .slice (some ⟨h3, 0, none⟩) n2 f3])
                  have HA3 := Lib.hid (setRow_row [.slice (some ⟨kk, 0, none⟩) n ee, .slice (some ⟨b2, 0, none⟩) n c2, .int .i64 (q'.first : Int), .int .i64 (q'.next : Int), .int .i64 (q'.asked : Int), .slice (some ⟨g1, 0, none⟩) n1 d1, .slice (some ⟨g3, 0, none⟩) n2 d3, .slice (some ⟨h1, 0, none⟩) n1 f1, .slice (some ⟨h3, 0, none⟩) n2 f3] hr)
                  have ho := RAt.off_row hra hr
                  have HRA := Lib.hid (RAt.butL hra HU.out ho.1 ho.2)
                  have HD := Lib.hid (And.intro d7 (And.intro dd9 (And.intro dd11 (And.intro hlo (And.intro hz7 (And.intro hmv hfr))))))
                  have HXX := Lib.hid (And.intro x2 (And.intro x4 x7))
                  clear x1 x2 x3 x4 x5 x6 x7 hr hr1 hlo d7 hz7 hmv hra hfr dd9 dd11 ho HX
                  refine if_wanted (by rfl) (wp_store_row 57 (.tmp 8) (.tmp 95) rfl r #[.slice (some ⟨kk, 0, none⟩) n ee, .slice (some ⟨b2, 0, none⟩) n c2, .int .i64 (q'.first : Int), .int .i64 (q'.next : Int), .int .i64 (q'.asked : Int), .slice (some ⟨g1, 0, none⟩) n1 d1, .slice (some ⟨g3, 0, none⟩) n2 d3, .slice (some ⟨h1, 0, none⟩) n1 f1, .slice (some ⟨h3, 0, none⟩) n2 f3] rfl rfl _ _ HRO.out state_size rfl (by simp [Value.oneCell']) ?_)
                  have V := HV.out
                  exact hK _ _ ⟨fun s => z s, _, _, _, _, _, _, rfl, Lib.hid ⟨V.1, V.2.1, V.2.2.1, V.2.2.2.1, V.2.2.2.2.1, V.2.2.2.2.2.1, V.2.2.2.2.2.2⟩, Lib.hid (HW.out.trans (HU.out.below (B := w5.heap.size) (by simp; exact HD.out.2.2.2.1) HW.out.size)), Lib.hid ⟨q', bb, kk, ee, fun _ => ⟨HD.out.2.2.2.2.1, HD.out.2.2.2.2.2.1, HRA.out, HD.out.2.2.2.2.2.2⟩, HXX.out.1, fun _ => ⟨HD.out.1, rfl⟩, HXX.out.2.1, fun _ => ⟨r, rfl, HD.out.2.2.2.1, fun e => (by cases e), fun _ => ⟨HD.out.2.1, HA3.out⟩⟩, fun _ => HD.out.2.2.1, HXX.out.2.2⟩⟩
                · rintro b a wy hb hd ⟨z, z8, z9, z86, z94, z95, z96, rfl, HV, HW, HX⟩ K hK
                  simp [Region.binds] at hd
                  have dd10 : b 10 = true := by simp [hd]
                  clear hd
                  obtain ⟨q', bb, kk, ee, x1, x2, x3, x4, x5, x6, x7⟩ := HX.out
                  obtain ⟨d7, rfl⟩ := x4 dd10
                  obtain ⟨rfl, hmv, hra, hfr⟩ := x1 d7
                  go_simp
                  have V := HV.out
                  exact hK _ _ ⟨fun s => z s, _, _, _, _, _, _, rfl, Lib.hid ⟨V.1, V.2.1, V.2.2.1, V.2.2.2.1, V.2.2.2.2.1, V.2.2.2.2.2.1, V.2.2.2.2.2.2⟩, HW, Lib.hid ⟨q', bb, kk, ee, fun _ => ⟨rfl, hmv, hra, hfr⟩, x2, x3, fun _ => ⟨d7, rfl⟩, x5, x6, fun _ => ⟨d7, rfl⟩⟩⟩
              case doneR13 =>
                rintro b a w6 hb ⟨z, z8, z9, z86, z94, z95, z96, rfl, HV, HW, HX⟩
                have e0 := (HV.out.1) (hb 0)
                have e1 := (HV.out.2.1) (hb 1)
                have e2 := (HV.out.2.2.1) (hb 2)
                have e3 := (HV.out.2.2.2.1) (hb 3)
                have e4 := (HV.out.2.2.2.2.1) (hb 4)
                have e5 := (HV.out.2.2.2.2.2.1) (hb 5)
                have e6 := (HV.out.2.2.2.2.2.2) (hb 6)
                simp only [e0, e1, e2, e3, e4, e5, e6]
                clear HV e0 e1 e2 e3 e4 e5 e6
                obtain ⟨q', bb, kk, ee, x1, x2, x3, x4, x5, _, x7⟩ := HX.out
                obtain ⟨rfl, hmv, hra, hfr⟩ := x1 (hb 7)
                obtain ⟨_, rfl⟩ := x2 (hb 8)
                obtain ⟨_, rfl⟩ := x3 (hb 9)
                obtain ⟨_, rfl⟩ := x4 (hb 10)
                obtain ⟨_, rfl⟩ := x7 (hb 13)
                obtain ⟨r, rfl, hlo, _, hr⟩ := x5 (hb 11)
                have hr := (hr (hb 12)).2
                have hlt3 := HRW3.out.lt
                have HMV := Lib.hid hmv
                have HRA := Lib.hid hra
                have HKK := Lib.hid (show kk ≠ g1 ∧ kk ≠ g3 ∧ kk ≠ h1 ∧ kk ≠ h3 by omega)
                have HZR := Lib.hid hr
                have HRW4 := Lib.hid (HRW3.out.below HW.out)
                have HY4 := Lib.hid (HY3.out.below HY3.out.lt HW.out)
                have HC4 := Lib.hid (HC3.out.trans (ButL.of_below [g1, g3, h1, h3] HW.out (Nat.le_refl _)))
                have HRY := Lib.hid (show r ≠ Y ∧ B ≤ r from ⟨by have := HY3.out.lt; omega, by have := HC3.out.size; have := HBB.out; omega⟩)
                clear x1 x2 x3 x4 x5 x7 hmv hra hfr hlo hr hlt3 HX HW hb HX3 HY3 HRW3 HC3
                have c5 := HZR.out.cellAt (i := 6) rfl
                have c7 := HZR.out.cellAt (i := 8) rfl
                have hki1 : (k : Int) < (n2 : Int) := by omega
                have fzg : w6.frozen? ⟨g3, k, none⟩ = false := (by obtain ⟨sp, hh⟩ := HRW4.out.r3; exact hh.free k)
                have cgo : w6.cell? ⟨g3, k, none⟩ = some (.int .i64 ((x.l2.getD k 0 : Nat) : Int)) := (by obtain ⟨sp, hh⟩ := HRW4.out.r3; exact row_int hh HKL.out)
                have HP1 := Lib.hid (HRW4.out.put2 (i := k) (b := bb) HRA.out HKK.out HKL.out HL.out.2.2.2)
                have fzh : (w6.setCell ⟨g3, k, none⟩ (.int .i64 (bb : Int))).frozen? ⟨h3, k, none⟩ = false := (by obtain ⟨sp, hh⟩ := HP1.out.1.t3; have := hh.free k; simpa using this)
                have cho : ∃ v, (w6.setCell ⟨g3, k, none⟩ (.int .i64 (bb : Int))).cell? ⟨h3, k, none⟩ = some v := (by obtain ⟨sp, hh⟩ := (exU HRW4.out.t3 (ButL.set w6 g3 k (.int .i64 (bb : Int))) (by simp; exact Ne.symm (HRW4.out.off_gh).2.2.2)); exact ⟨_, row_bool hh (by have := HL.out; have := HKL.out; omega)⟩)
                obtain ⟨vo, cho⟩ := cho
                have c7b : (w6.setCell ⟨g3, k, none⟩ (.int .i64 (bb : Int))).cell? ⟨r, 8, none⟩ = _ := (RowV.butL HZR.out (ButL.set w6 g3 k (.int .i64 (bb : Int))) (Ne.symm (exNe HRW4.out.r3 HZR.out (by decide)))).cellAt (i := 8) rfl
                go_upto_region 16 with (fail)
                have HRZ := Lib.hid ((RowV.butL HZR.out (ButL.set w6 g3 k (.int .i64 (bb : Int))) (Ne.symm (exNe HRW4.out.r3 HZR.out (by decide)))))
                have HZ7 := Lib.hid (HZR.out.block (HP1.out.2.block _ HZR.out.lt (by simp; exact ⟨Ne.symm (exNe HRW4.out.r3 HZR.out (by decide)), Ne.symm (exNe HRW4.out.t3 HZR.out (by decide))⟩)))
                have HY7 := Lib.hid (HY4.out.block (HP1.out.2.block _ HY4.out.lt (by simp; exact ⟨Ne.symm (exNe HRW4.out.r3 HY4.out (by decide)), Ne.symm (exNe HRW4.out.t3 HY4.out (by decide))⟩)))
                have HRW7 := Lib.hid HP1.out.1
                have HC7 := Lib.hid (HC4.out.trans (HP1.out.2.mono (M := [g1, g3, h1, h3]) (by simp)))
                clear c5 c7 hki1 fzg cgo HP1 fzh cho c7b HRZ HRW4 HY4 HC4 HRA HZR
                generalize (w6.setCell ⟨g3, k, none⟩ (.int .i64 (bb : Int))).setCell ⟨h3, k, none⟩ (.bool true) = w7 at *
                have HSZ := Lib.hid state_size
                go_wp2_with (first
                  | (refine wpList_load_row rfl 57 (.tmp 8) rfl r rfl _ #[.slice (some ⟨kk, 0, none⟩) n ee, .slice (some ⟨b2, 0, none⟩) n c2, .int .i64 (q'.first : Int), .int .i64 (q'.next : Int), .int .i64 (q'.asked : Int), .slice (some ⟨g1, 0, none⟩) n1 d1, .slice (some ⟨g3, 0, none⟩) n2 d3, .slice (some ⟨h1, 0, none⟩) n1 f1, .slice (some ⟨h3, 0, none⟩) n2 f3] _ _ HZ7.out Try.underlying57 rfl HSZ.out ?_)
                  | (refine wpList_store_row rfl 57 (.tmp 2) (.tmp 107) rfl Y #[.slice (some ⟨kk, 0, none⟩) n ee, .slice (some ⟨b2, 0, none⟩) n c2, .int .i64 (q'.first : Int), .int .i64 (q'.next : Int), .int .i64 (q'.asked : Int), .slice (some ⟨g1, 0, none⟩) n1 d1, .slice (some ⟨g3, 0, none⟩) n2 d3, .slice (some ⟨h1, 0, none⟩) n1 f1, .slice (some ⟨h3, 0, none⟩) n2 f3] rfl rfl _ _ HY7.out HSZ.out rfl (by simp [Value.oneCell']) ?_)
                  | fail)
                have HY8 := Lib.hid (setRow_row [.slice (some ⟨kk, 0, none⟩) n ee, .slice (some ⟨b2, 0, none⟩) n c2, .int .i64 (q'.first : Int), .int .i64 (q'.next : Int), .int .i64 (q'.asked : Int), .slice (some ⟨g1, 0, none⟩) n1 d1, .slice (some ⟨g3, 0, none⟩) n2 d3, .slice (some ⟨h1, 0, none⟩) n1 f1, .slice (some ⟨h3, 0, none⟩) n2 f3] HY7.out)
                have HRW8 := Lib.hid (HRW7.out.row HY7.out (setRow_but w7 Y #[.slice (some ⟨kk, 0, none⟩) n ee, .slice (some ⟨b2, 0, none⟩) n c2, .int .i64 (q'.first : Int), .int .i64 (q'.next : Int), .int .i64 (q'.asked : Int), .slice (some ⟨g1, 0, none⟩) n1 d1, .slice (some ⟨g3, 0, none⟩) n2 d3, .slice (some ⟨h1, 0, none⟩) n1 f1, .slice (some ⟨h3, 0, none⟩) n2 f3]) (by decide) (by decide))
                have HC8 := Lib.hid (HC7.out.join (setRow_but w7 Y #[.slice (some ⟨kk, 0, none⟩) n ee, .slice (some ⟨b2, 0, none⟩) n c2, .int .i64 (q'.first : Int), .int .i64 (q'.next : Int), .int .i64 (q'.asked : Int), .slice (some ⟨g1, 0, none⟩) n1 d1, .slice (some ⟨g3, 0, none⟩) n2 d3, .slice (some ⟨h1, 0, none⟩) n1 f1, .slice (some ⟨h3, 0, none⟩) n2 f3]) (by simp; exact .inr HXY.out.2.2))
                have HST := Lib.hid (show x.Step (x.mv2 k bb q') from Wk.Step.two k bb q' HONE.out (FirstP.yes HAS.out HNO.out) (by rw [← HOL.out]; exact HMV.out))
                refine bodyPost_ret (v := .tuple #[.agg #[.slice (some ⟨kk, 0, none⟩) n ee, .slice (some ⟨b2, 0, none⟩) n c2, .int .i64 (q'.first : Int), .int .i64 (q'.next : Int), .int .i64 (q'.asked : Int), .slice (some ⟨g1, 0, none⟩) n1 d1, .slice (some ⟨g3, 0, none⟩) n2 d3, .slice (some ⟨h1, 0, none⟩) n1 f1, .slice (some ⟨h3, 0, none⟩) n2 f3], .bool true]) ?_ rfl ⟨true, kk, ee, x.mv2 k bb q', rfl, fun _ => HST.out, fun e => (by cases e), HRW8.out, HC8.out⟩
                clear HRW8 HC8 HST
                have r0 := HY8.out.cellAt (i := 0) rfl
                have r1 := HY8.out.cellAt (i := 1) rfl
                have r2 := HY8.out.cellAt (i := 2) rfl
                have r3 := HY8.out.cellAt (i := 3) rfl
                have r4 := HY8.out.cellAt (i := 4) rfl
                have r5 := HY8.out.cellAt (i := 5) rfl
                have r6 := HY8.out.cellAt (i := 6) rfl
                have r7 := HY8.out.cellAt (i := 7) rfl
                have r8 := HY8.out.cellAt (i := 8) rfl
                rw [results_cell_tmp rfl]
                go_simp
        · have hki : ¬ (k : Int) < (n2 : Int) := by omega
          obtain rfl : n2 = k := by omega
          go_upto_region 17 with (fail)
          have HSZ := Lib.hid state_size
          go_wp2_with (first
            | (refine wpList_load_row rfl 57 (.tmp 1) rfl X rfl _ #[.slice (some ⟨b1, 0, none⟩) n c1, .slice (some ⟨b2, 0, none⟩) n c2, .int .i64 (x.q.first : Int), .int .i64 (x.q.next : Int), .int .i64 (x.q.asked : Int), .slice (some ⟨g1, 0, none⟩) n1 d1, .slice (some ⟨g3, 0, none⟩) n2 d3, .slice (some ⟨h1, 0, none⟩) n1 f1, .slice (some ⟨h3, 0, none⟩) n2 f3] _ _ HX2.out Try.underlying57 rfl HSZ.out ?_)
            | (refine wpList_store_row rfl 57 (.tmp 2) (.tmp 108) rfl Y #[.slice (some ⟨b1, 0, none⟩) n c1, .slice (some ⟨b2, 0, none⟩) n c2, .int .i64 (x.q.first : Int), .int .i64 (x.q.next : Int), .int .i64 (x.q.asked : Int), .slice (some ⟨g1, 0, none⟩) n1 d1, .slice (some ⟨g3, 0, none⟩) n2 d3, .slice (some ⟨h1, 0, none⟩) n1 f1, .slice (some ⟨h3, 0, none⟩) n2 f3] rfl rfl _ _ HY2.out HSZ.out rfl (by simp [Value.oneCell']) ?_)
            | fail)
          have HY8 := Lib.hid (setRow_row [.slice (some ⟨b1, 0, none⟩) n c1, .slice (some ⟨b2, 0, none⟩) n c2, .int .i64 (x.q.first : Int), .int .i64 (x.q.next : Int), .int .i64 (x.q.asked : Int), .slice (some ⟨g1, 0, none⟩) n1 d1, .slice (some ⟨g3, 0, none⟩) n2 d3, .slice (some ⟨h1, 0, none⟩) n1 f1, .slice (some ⟨h3, 0, none⟩) n2 f3] HY2.out)
          have HRW8 := Lib.hid (HRW2.out.row HY2.out (setRow_but wr Y #[.slice (some ⟨b1, 0, none⟩) n c1, .slice (some ⟨b2, 0, none⟩) n c2, .int .i64 (x.q.first : Int), .int .i64 (x.q.next : Int), .int .i64 (x.q.asked : Int), .slice (some ⟨g1, 0, none⟩) n1 d1, .slice (some ⟨g3, 0, none⟩) n2 d3, .slice (some ⟨h1, 0, none⟩) n1 f1, .slice (some ⟨h3, 0, none⟩) n2 f3]) (by decide) (by decide))
          have HC8 := Lib.hid (HC2.out.join (setRow_but wr Y #[.slice (some ⟨b1, 0, none⟩) n c1, .slice (some ⟨b2, 0, none⟩) n c2, .int .i64 (x.q.first : Int), .int .i64 (x.q.next : Int), .int .i64 (x.q.asked : Int), .slice (some ⟨g1, 0, none⟩) n1 d1, .slice (some ⟨g3, 0, none⟩) n2 d3, .slice (some ⟨h1, 0, none⟩) n1 f1, .slice (some ⟨h3, 0, none⟩) n2 f3]) (by simp; exact .inr HXY.out.2.2))
          refine bodyPost_ret (v := .tuple #[.agg #[.slice (some ⟨b1, 0, none⟩) n c1, .slice (some ⟨b2, 0, none⟩) n c2, .int .i64 (x.q.first : Int), .int .i64 (x.q.next : Int), .int .i64 (x.q.asked : Int), .slice (some ⟨g1, 0, none⟩) n1 d1, .slice (some ⟨g3, 0, none⟩) n2 d3, .slice (some ⟨h1, 0, none⟩) n1 f1, .slice (some ⟨h3, 0, none⟩) n2 f3], .bool false]) ?_ rfl ⟨false, b1, c1, x, rfl, fun e => (by cases e), fun _ => ⟨⟨HONE.out, noP_all (fun j hj => HNO.out j (by rw [← HL.out.2.1]; exact hj))⟩, rfl⟩, HRW8.out, HC8.out⟩
          clear HRW8 HC8 a0 a1 a2 a3 a4 a5 a6 a7 a8
          have r0 := HY8.out.cellAt (i := 0) rfl
          have r1 := HY8.out.cellAt (i := 1) rfl
          have r2 := HY8.out.cellAt (i := 2) rfl
          have r3 := HY8.out.cellAt (i := 3) rfl
          have r4 := HY8.out.cellAt (i := 4) rfl
          have r5 := HY8.out.cellAt (i := 5) rfl
          have r6 := HY8.out.cellAt (i := 6) rfl
          have r7 := HY8.out.cellAt (i := 7) rfl
          have r8 := HY8.out.cellAt (i := 8) rfl
          rw [results_cell_tmp rfl]
          go_simp
end Go.Proofs.Ytlemjegngnfanaa.Pl

/- The reference's Place. (Written by bin/gen_plrg.py.) -/
namespace Go.Proofs.Ytlemjegngnfanaa.Pl
open Go.RowKit Go.Proofs.Ytlemjegngnfanaa.Oct Go.Proofs.Ytlemjegngnfanaa.Mv Go.Proofs.Ytlemjegngnfanaa.Tl Go.Proofs.Ytlemjegngnfanaa.Pk Go.Maps
set_option linter.unusedVariables false

def PlaceE (n n1 n2 b1 c1 b2 c2 g1 d1 g3 d3 : Nat) (q : Q) (k : Int) (w : World) (e : Ending) (w' : World) : Prop := e = .returned (.tuple #[.agg #[.slice (some ⟨b1, 0, none⟩) n c1, .slice (some ⟨b2, 0, none⟩) n c2, .int .i64 (q.first : Int), .int .i64 (q.next : Int), .int .i64 (q.asked : Int), .slice (some ⟨g1, 0, none⟩) n1 d1, .slice (some ⟨g3, 0, none⟩) n2 d3, .slice none 0 0, .slice none 0 0], .int .i64 k]) ∧ Below w.heap.size w w'
/-- What the reference's Place answers. -/
def PlaceR (n n1 n2 b2 c2 : Nat) (q : Q) (l1 l2 : List Nat) (w : World) (e : Ending) (w' : World) : Prop :=
  ∃ (k1 e1 g1 d1 g3 d3 h1 f1 h3 f3 : Nat) (y : Wk), e = .returned (.tuple #[.agg #[.slice (some ⟨k1, 0, none⟩) n e1, .slice (some ⟨b2, 0, none⟩) n c2, .int .i64 (y.q.first : Int), .int .i64 (y.q.next : Int), .int .i64 (y.q.asked : Int), .slice (some ⟨g1, 0, none⟩) n1 d1, .slice (some ⟨g3, 0, none⟩) n2 d3, .slice (some ⟨h1, 0, none⟩) n1 f1, .slice (some ⟨h3, 0, none⟩) n2 f3], .int .i64 0]) ∧ (begin q l1 l2).Runs y ∧ RW w' k1 e1 b2 c2 g1 g3 h1 h3 w.heap.size y ∧ Below w.heap.size w w'
theorem boxes3 (w : World) (vs us zs : List Value) (T U Z : TypeId) {W : World} (hW : ((w.alloc (.cells vs.toArray T)).alloc (.cells us.toArray U)).alloc (.cells zs.toArray Z) = W) : RowV W w.heap.size T vs ∧ RowV W (w.heap.size + 1) U us ∧ RowV W (w.heap.size + 1 + 1) Z zs ∧ W.heap.size = w.heap.size + 3 ∧ Below w.heap.size w W := by
  subst hW
  have s1 : (w.alloc (.cells vs.toArray T)).heap.size = w.heap.size + 1 := by simp
  have s2 : ((w.alloc (.cells vs.toArray T)).alloc (.cells us.toArray U)).heap.size = w.heap.size + 2 := by simp
  have B1 := box_below w (.cells vs.toArray T)
  have B2 := box_below (w.alloc (.cells vs.toArray T)) (.cells us.toArray U)
  have B3 := box_below ((w.alloc (.cells vs.toArray T)).alloc (.cells us.toArray U)) (.cells zs.toArray Z)
  have R1 := alloc_rowV w T vs
  have R2 := alloc_rowV (w.alloc (.cells vs.toArray T)) U us
  have R3 := alloc_rowV ((w.alloc (.cells vs.toArray T)).alloc (.cells us.toArray U)) Z zs
  have R1b := R1.below R1.lt B2
  have R1c := R1b.below R1b.lt B3
  have R2b := R2.below R2.lt B3
  rw [s1] at R2b
  rw [s2] at R3
  exact ⟨R1c, R2b, R3, by simp, B1.trans ((B2.mono B1.size).trans (B3.mono (Nat.le_trans B1.size B2.size)))⟩
theorem app_row {w : World} {b0 : Addr} {b o c n : Nat} {l : List Nat} (hs : HasV w b o (ints l)) (hn : l.length = n) (h0 : 0 < l.length) (hl : l.length ≤ 4096) (ty : TypeId) :
    ∃ g cp w', (Builtin.append_ #[31, 31] ty #[.slice (some b0) 0 0, .slice (some ⟨b, o, none⟩) n c]).run Try.prog w = .ok (.slice (some ⟨g, 0, none⟩) n cp) w' ∧ (∃ sp, RowV w' g 3 (ints l ++ sp)) ∧ Below w.heap.size w w' ∧ w.heap.size ≤ g := by
  subst hn
  obtain ⟨g, cp, w', hr, ho, hb, hg⟩ := app_fresh (b0 := b0) (c := c) hs h0 hl ty
  refine ⟨g, cp, w', hr, ?_, hb, hg⟩
  rcases ho.2 with ⟨e, _⟩ | ⟨g', cap, cur, e, _, hgg, _, _, _, ht⟩
  · cases e
  · simp only [Value.slice.injEq, Option.some.injEq, Addr.mk.injEq, and_true] at e
    obtain ⟨rfl, _, _⟩ := e
    rw [ints_toI] at ht
    refine ⟨cur.toList.drop ((toI l).length * 1), ?_⟩
    have e : ints l ++ cur.toList.drop ((toI l).length * 1) = cur.toList := by rw [← ht, List.take_append_drop]
    unfold RowV
    rw [e, hgg]
theorem right_true {s : St} {l1 l2 : List Nat} {w0 : World} {args : Array Value} {f : Nat} (h : Calls Try.prog f args w0 (Bo (RightS s (toI l1) (toI l2)) w0)) (hr : RightS s (toI l1) (toI l2)) : Calls Try.prog f args w0 fun e w' => e = .returned (.bool true) ∧ Below w0.heap.size w0 w' := by
  refine h.mono ?_
  rintro e w' ⟨r, rfl, hr2, b⟩
  rw [hr2.2 hr]
  exact ⟨rfl, b⟩
theorem right_false {s : St} {l1 l2 : List Nat} {w0 : World} {args : Array Value} {f : Nat} (h : Calls Try.prog f args w0 (Bo (RightS s (toI l1) (toI l2)) w0)) (hr : ¬ RightS s (toI l1) (toI l2)) : Calls Try.prog f args w0 fun e w' => e = .returned (.bool false) ∧ Below w0.heap.size w0 w' := by
  refine h.mono ?_
  rintro e w' ⟨r, rfl, hr2, b⟩
  rcases r with _ | _
  · exact ⟨rfl, b⟩
  · exact absurd (hr2.1 rfl) hr
theorem rright_is {w : World} {n n1 n2 b1 c1 b2 c2 g1 d1 g3 d3 : Nat} {s : St} (h : RAt w b1 c1 b2 c2 s) {l1 l2 : List Nat} (hs1 : HasV w g1 0 (ints l1)) (hs3 : HasV w g3 0 (ints l2)) (hl1 : l1.length = pg s.n) (hl2 : l2.length = pg (pg s.n)) (hn : s.n = n) (hn1 : l1.length = n1) (hn2 : l2.length = n2) :
    Calls Try.prog 49 #[.slice (some ⟨b1, 0, none⟩) n c1, .agg #[.slice (some ⟨g1, 0, none⟩) n1 d1, .slice (some ⟨g3, 0, none⟩) n2 d3]] w (Bo (RightS s (toI l1) (toI l2)) w) := by
  subst hn hn1 hn2
  exact rright_any h hs1 hs3 hl1 hl2
theorem rroom_is {w : World} {n b1 c1 b2 c2 : Nat} {q : Q} (h : RAt w b1 c1 b2 c2 q.s) (hok : q.Ok) (hn : q.s.n = n) :
    Calls Try.prog 41 #[.agg #[.slice (some ⟨b1, 0, none⟩) n c1, .slice (some ⟨b2, 0, none⟩) n c2, .int .i64 (q.first : Int), .int .i64 (q.next : Int), .int .i64 (q.asked : Int)]] w fun e w' => e = .returned (.int .i64 (q.room : Int)) ∧ Below w.heap.size w w' := by
  subst hn
  exact rroom_at h hok
theorem Wk.Step.nn {x y : Wk} (h : x.Step y) (hg : x.Good) : y.q.s.n = x.q.s.n := by
  cases h with
  | one i b q' k1 k2 => exact k2.n (hg.may1 k1.ask.1 k1.ask.2.1)
  | two i b q' k0 k1 k2 => exact k2.n (hg.may2 k1.ask.1 k1.ask.2.1)
theorem goes_n {x y : Wk} {n : Nat} (h : x.Goes y) (hg : x.Good) (hn : x.q.s.n = n) : y.q.s.n = n := by
  induction h with
  | none => exact hn
  | more h s ih => rw [s.nn (h.good hg)]; exact ih
theorem rneed_is {n m : Nat} (h1 : 1 ≤ n) (h : n ≤ 4096) (hm : need n = m) (w : World) :
    Calls Try.prog 13 #[.int .i64 (n : Int)] w fun e w' => e = .returned (.int .i64 (m : Int)) ∧ w = w' := by
  subst hm
  exact rneed_eq n h1 h w

set_option maxRecDepth 100000 in
set_option maxHeartbeats 16000000 in
theorem rplace_sheet {w : World} {n n1 n2 b1 c1 b2 c2 g1 d1 g3 d3 : Nat} {q : Q} {l1 l2 : List Nat} (h : RAt w b1 c1 b2 c2 q.s) (hok : q.Ok) (hn : q.s.n = n) (hs1 : HasV w g1 0 (ints l1)) (hs3 : HasV w g3 0 (ints l2)) (hl1 : l1.length = pg q.s.n) (hl2 : l2.length = pg (pg q.s.n)) (hn1 : l1.length = n1) (hn2 : l2.length = n2) (hno : ¬ RightS q.s (toI l1) (toI l2)) :
    Calls Try.prog 23 #[.agg #[.slice (some ⟨b1, 0, none⟩) n c1, .slice (some ⟨b2, 0, none⟩) n c2, .int .i64 (q.first : Int), .int .i64 (q.next : Int), .int .i64 (q.asked : Int)], .agg #[.slice (some ⟨g1, 0, none⟩) n1 d1, .slice (some ⟨g3, 0, none⟩) n2 d3]] w (PlaceE n n1 n2 b1 c1 b2 c2 g1 d1 g3 d3 q 100 w) := by
  have hz := state_zero
  have hlo : 1 ≤ n := by have h9 : 0 < q.s.n := h.ok.lo; omega
  have hhi : n ≤ 4096 := by have h9 : q.s.n ≤ 4096 := h.ok.hi; omega
  have e1 : n1 = pg n := by rw [← hn1, hl1, hn]
  have e2 : n2 = pg n1 := by rw [← hn2, hl2, ← hl1, hn1]
  have hp1 : 0 < n1 ∧ n1 ≤ 100 := by clear e2; unfold pg at e1; omega
  have hp2 : 0 < n2 ∧ n2 ≤ 100 := by clear e1; unfold pg at e2; omega
  clear e1 e2
  have hx1 := hs1.lt (by rw [length_ints, hn1]; exact hp1.1)
  have hx3 := hs3.lt (by rw [length_ints, hn2]; exact hp2.1)
  have HA := Lib.hid h
  have H1 := Lib.hid (And.intro hs1 hx1)
  have H3 := Lib.hid (And.intro hs3 hx3)
  have HOK := Lib.hid hok
  have HN := Lib.hid hn
  have HL := Lib.hid (And.intro hl1 (And.intro hl2 (And.intro hn1 hn2)))
  have HP := Lib.hid (And.intro hp1 hp2)
  clear h hok hn hs1 hs3 hl1 hl2 hn1 hn2 hp1 hp2 hx1 hx3
  go_enter Try.func23, Try.ntmps23
  go_upto_region 1 with (fail)
  have HBX := boxes3 w [.slice (some ⟨b1, 0, none⟩) n c1, .slice (some ⟨b2, 0, none⟩) n c2, .int .i64 (q.first : Int), .int .i64 (q.next : Int), .int .i64 (q.asked : Int)] [.slice (some ⟨g1, 0, none⟩) n1 d1, .slice (some ⟨g3, 0, none⟩) n2 d3] [.slice none 0 0, .slice none 0 0, .int .i64 0, .int .i64 0, .int .i64 0, .slice none 0 0, .slice none 0 0, .slice none 0 0, .slice none 0 0] 37 42 57 rfl
  clear hz
  obtain ⟨hbp, hbs, hby, hbz, hbb⟩ := HBX
  have HPX := Lib.hid hbp
  have HSX := Lib.hid hbs
  have HYX := Lib.hid hby
  have HB := Lib.hid hbb
  clear hbp hbs hby hbb
  generalize ((w.alloc (.cells #[.slice (some ⟨b1, 0, none⟩) n c1, .slice (some ⟨b2, 0, none⟩) n c2, .int .i64 (q.first : Int), .int .i64 (q.next : Int), .int .i64 (q.asked : Int)] 37)).alloc (.cells #[.slice (some ⟨g1, 0, none⟩) n1 d1, .slice (some ⟨g3, 0, none⟩) n2 d3] 42)).alloc (.cells #[.slice none 0 0, .slice none 0 0, .int .i64 0, .int .i64 0, .int .i64 0, .slice none 0 0, .slice none 0 0, .slice none 0 0, .slice none 0 0] 57) = w1 at *
  obtain ⟨P1, hP1⟩ : ∃ P1, P1 = w.heap.size := ⟨_, rfl⟩
  obtain ⟨S1, hS1⟩ : ∃ S1, S1 = w.heap.size + 1 := ⟨_, rfl⟩
  obtain ⟨Y, hY⟩ : ∃ Y, Y = w.heap.size + 1 + 1 := ⟨_, rfl⟩
  rw [← hY] at HYX ⊢
  rw [← hS1] at HSX ⊢
  rw [← hP1] at HPX
  simp only [← hP1]
  have HLO := Lib.hid (show w.heap.size ≤ P1 ∧ w.heap.size ≤ S1 ∧ w.heap.size ≤ Y by omega)
  clear hP1 hS1 hY hbz
  have hz := state_zero w1
  have Z1 := box_below w1 (.cells #[.slice none 0 0, .slice none 0 0, .int .i64 0, .int .i64 0, .int .i64 0, .slice none 0 0, .slice none 0 0, .slice none 0 0, .slice none 0 0] 57)
  have RV0 := Lib.hid (alloc_rowV w1 57 [.slice none 0 0, .slice none 0 0, .int .i64 0, .int .i64 0, .int .i64 0, .slice none 0 0, .slice none 0 0, .slice none 0 0, .slice none 0 0])
  have HPX1 := Lib.hid (HPX.out.below HPX.out.lt Z1)
  have HSX1 := Lib.hid (HSX.out.below HSX.out.lt Z1)
  have HYX1 := Lib.hid (HYX.out.below HYX.out.lt Z1)
  have HB1 := Lib.hid (HB.out.trans (Z1.mono HB.out.size))
  have HLV := Lib.hid HB.out.size
  have p0 := HPX.out.cellAt (i := 0) rfl
  have p1 := HPX.out.cellAt (i := 1) rfl
  have p2 := HPX.out.cellAt (i := 2) rfl
  have p3 := HPX.out.cellAt (i := 3) rfl
  have p4 := HPX.out.cellAt (i := 4) rfl
  have q0 := HSX.out.cellAt (i := 0) rfl
  have q1 := HSX.out.cellAt (i := 1) rfl
  have HSZ := Lib.hid state_size
  go_upto_region 2 with (first
    | (refine wpList_store_row rfl 57 (.tmp 6) (.tmp 10) rfl w1.heap.size #[.slice (some ⟨b1, 0, none⟩) n c1, .slice (some ⟨b2, 0, none⟩) n c2, .int .i64 (q.first : Int), .int .i64 (q.next : Int), .int .i64 (q.asked : Int), .slice (some ⟨g1, 0, none⟩) n1 d1, .slice (some ⟨g3, 0, none⟩) n2 d3, .slice none 0 0, .slice none 0 0] rfl rfl _ _ RV0.out HSZ.out rfl (by simp [Value.oneCell']) ?_)
    | fail)
  clear hz Z1 p0 p1 p2 p3 p4 q0 q1
  obtain ⟨Vx, hV⟩ : ∃ Vx, Vx = w1.heap.size := ⟨_, rfl⟩
  rw [← hV] at RV0 HLV ⊢
  have HVN := Lib.hid (show P1 ≠ Vx ∧ S1 ≠ Vx ∧ Y ≠ Vx by have := HPX.out.lt; have := HSX.out.lt; have := HYX.out.lt; omega)
  have HPX := Lib.hid (RowV.butL HPX1.out (setRow_but _ Vx #[.slice (some ⟨b1, 0, none⟩) n c1, .slice (some ⟨b2, 0, none⟩) n c2, .int .i64 (q.first : Int), .int .i64 (q.next : Int), .int .i64 (q.asked : Int), .slice (some ⟨g1, 0, none⟩) n1 d1, .slice (some ⟨g3, 0, none⟩) n2 d3, .slice none 0 0, .slice none 0 0]) HVN.out.1)
  have HSX := Lib.hid (RowV.butL HSX1.out (setRow_but _ Vx #[.slice (some ⟨b1, 0, none⟩) n c1, .slice (some ⟨b2, 0, none⟩) n c2, .int .i64 (q.first : Int), .int .i64 (q.next : Int), .int .i64 (q.asked : Int), .slice (some ⟨g1, 0, none⟩) n1 d1, .slice (some ⟨g3, 0, none⟩) n2 d3, .slice none 0 0, .slice none 0 0]) HVN.out.2.1)
  have HYX := Lib.hid (RowV.butL HYX1.out (setRow_but _ Vx #[.slice (some ⟨b1, 0, none⟩) n c1, .slice (some ⟨b2, 0, none⟩) n c2, .int .i64 (q.first : Int), .int .i64 (q.next : Int), .int .i64 (q.asked : Int), .slice (some ⟨g1, 0, none⟩) n1 d1, .slice (some ⟨g3, 0, none⟩) n2 d3, .slice none 0 0, .slice none 0 0]) HVN.out.2.2)
  have HVX := Lib.hid (setRow_row [.slice (some ⟨b1, 0, none⟩) n c1, .slice (some ⟨b2, 0, none⟩) n c2, .int .i64 (q.first : Int), .int .i64 (q.next : Int), .int .i64 (q.asked : Int), .slice (some ⟨g1, 0, none⟩) n1 d1, .slice (some ⟨g3, 0, none⟩) n2 d3, .slice none 0 0, .slice none 0 0] RV0.out)
  have HB := Lib.hid (HB1.out.trans ((setRow_but _ Vx #[.slice (some ⟨b1, 0, none⟩) n c1, .slice (some ⟨b2, 0, none⟩) n c2, .int .i64 (q.first : Int), .int .i64 (q.next : Int), .int .i64 (q.asked : Int), .slice (some ⟨g1, 0, none⟩) n1 d1, .slice (some ⟨g3, 0, none⟩) n2 d3, .slice none 0 0, .slice none 0 0]).below (B := w.heap.size) (by simp; exact HLV.out) HB1.out.size))
  clear HPX1 HSX1 HYX1 RV0 HB1 hV
  generalize (w1.alloc (.cells #[.slice none 0 0, .slice none 0 0, .int .i64 0, .int .i64 0, .int .i64 0, .slice none 0 0, .slice none 0 0, .slice none 0 0, .slice none 0 0] 57)).setRow Vx #[.slice (some ⟨b1, 0, none⟩) n c1, .slice (some ⟨b2, 0, none⟩) n c2, .int .i64 (q.first : Int), .int .i64 (q.next : Int), .int .i64 (q.asked : Int), .slice (some ⟨g1, 0, none⟩) n1 d1, .slice (some ⟨g3, 0, none⟩) n2 d3, .slice none 0 0, .slice none 0 0] = w2 at *
  have p0 := HPX.out.cellAt (i := 0) rfl
  have q0 := HSX.out.cellAt (i := 0) rfl
  have q1 := HSX.out.cellAt (i := 1) rfl
  go_wp2_with fail
  refine (right_false (rright_is (HA.out.below HB.out) (H1.out.1.below H1.out.2 HB.out) (H3.out.1.below H3.out.2 HB.out) HL.out.1 HL.out.2.1 HN.out HL.out.2.2.1 HL.out.2.2.2) hno).mono ?_
  rintro e w3 ⟨rfl, bz⟩
  have HPX3 := Lib.hid (HPX.out.below HPX.out.lt bz)
  have HSX3 := Lib.hid (HSX.out.below HSX.out.lt bz)
  have HYX3 := Lib.hid (HYX.out.below HYX.out.lt bz)
  have HVX3 := Lib.hid (HVX.out.below HVX.out.lt bz)
  have HB3 := Lib.hid (HB.out.trans (bz.mono HB.out.size))
  clear p0 q0 q1 bz HPX HSX HYX HVX HB
  have HSZ := Lib.hid state_size
  go_wp2_with (first
    | (refine wpList_load_row rfl 57 (.tmp 6) rfl Vx rfl _ #[.slice (some ⟨b1, 0, none⟩) n c1, .slice (some ⟨b2, 0, none⟩) n c2, .int .i64 (q.first : Int), .int .i64 (q.next : Int), .int .i64 (q.asked : Int), .slice (some ⟨g1, 0, none⟩) n1 d1, .slice (some ⟨g3, 0, none⟩) n2 d3, .slice none 0 0, .slice none 0 0] _ _ HVX3.out Try.underlying57 rfl HSZ.out ?_)
    | (refine wpList_store_row rfl 57 (.tmp 4) (.tmp 17) rfl Y #[.slice (some ⟨b1, 0, none⟩) n c1, .slice (some ⟨b2, 0, none⟩) n c2, .int .i64 (q.first : Int), .int .i64 (q.next : Int), .int .i64 (q.asked : Int), .slice (some ⟨g1, 0, none⟩) n1 d1, .slice (some ⟨g3, 0, none⟩) n2 d3, .slice none 0 0, .slice none 0 0] rfl rfl _ _ HYX3.out HSZ.out rfl (by simp [Value.oneCell']) ?_)
    | fail)
  have HY8 := Lib.hid (setRow_row [.slice (some ⟨b1, 0, none⟩) n c1, .slice (some ⟨b2, 0, none⟩) n c2, .int .i64 (q.first : Int), .int .i64 (q.next : Int), .int .i64 (q.asked : Int), .slice (some ⟨g1, 0, none⟩) n1 d1, .slice (some ⟨g3, 0, none⟩) n2 d3, .slice none 0 0, .slice none 0 0] HYX3.out)
  have HB8 := Lib.hid (HB3.out.trans ((setRow_but w3 Y #[.slice (some ⟨b1, 0, none⟩) n c1, .slice (some ⟨b2, 0, none⟩) n c2, .int .i64 (q.first : Int), .int .i64 (q.next : Int), .int .i64 (q.asked : Int), .slice (some ⟨g1, 0, none⟩) n1 d1, .slice (some ⟨g3, 0, none⟩) n2 d3, .slice none 0 0, .slice none 0 0]).below (B := w.heap.size) (by simp; exact HLO.out.2.2) HB3.out.size))
  refine bodyPost_ret (v := .tuple #[.agg #[.slice (some ⟨b1, 0, none⟩) n c1, .slice (some ⟨b2, 0, none⟩) n c2, .int .i64 (q.first : Int), .int .i64 (q.next : Int), .int .i64 (q.asked : Int), .slice (some ⟨g1, 0, none⟩) n1 d1, .slice (some ⟨g3, 0, none⟩) n2 d3, .slice none 0 0, .slice none 0 0], .int .i64 100]) ?_ rfl (show PlaceE n n1 n2 b1 c1 b2 c2 g1 d1 g3 d3 q 100 w _ _ from ⟨rfl, HB8.out⟩)
  clear HB8
  have r0 := HY8.out.cellAt (i := 0) rfl
  have r1 := HY8.out.cellAt (i := 1) rfl
  have r2 := HY8.out.cellAt (i := 2) rfl
  have r3 := HY8.out.cellAt (i := 3) rfl
  have r4 := HY8.out.cellAt (i := 4) rfl
  have r5 := HY8.out.cellAt (i := 5) rfl
  have r6 := HY8.out.cellAt (i := 6) rfl
  have r7 := HY8.out.cellAt (i := 7) rfl
  have r8 := HY8.out.cellAt (i := 8) rfl
  rw [results_cell_tmp rfl]
  go_simp

set_option maxRecDepth 100000 in
set_option maxHeartbeats 16000000 in
theorem rplace_space {w : World} {n n1 n2 b1 c1 b2 c2 g1 d1 g3 d3 : Nat} {q : Q} {l1 l2 : List Nat} (h : RAt w b1 c1 b2 c2 q.s) (hok : q.Ok) (hn : q.s.n = n) (hs1 : HasV w g1 0 (ints l1)) (hs3 : HasV w g3 0 (ints l2)) (hl1 : l1.length = pg q.s.n) (hl2 : l2.length = pg (pg q.s.n)) (hn1 : l1.length = n1) (hn2 : l2.length = n2) (hyes : RightS q.s (toI l1) (toI l2)) (hroom : q.room < need q.s.n) :
    Calls Try.prog 23 #[.agg #[.slice (some ⟨b1, 0, none⟩) n c1, .slice (some ⟨b2, 0, none⟩) n c2, .int .i64 (q.first : Int), .int .i64 (q.next : Int), .int .i64 (q.asked : Int)], .agg #[.slice (some ⟨g1, 0, none⟩) n1 d1, .slice (some ⟨g3, 0, none⟩) n2 d3]] w (PlaceE n n1 n2 b1 c1 b2 c2 g1 d1 g3 d3 q 90 w) := by
  have hz := state_zero
  have hlo : 1 ≤ n := by have h9 : 0 < q.s.n := h.ok.lo; omega
  have hhi : n ≤ 4096 := by have h9 : q.s.n ≤ 4096 := h.ok.hi; omega
  have e1 : n1 = pg n := by rw [← hn1, hl1, hn]
  have e2 : n2 = pg n1 := by rw [← hn2, hl2, ← hl1, hn1]
  have hp1 : 0 < n1 ∧ n1 ≤ 100 := by clear e2; unfold pg at e1; omega
  have hp2 : 0 < n2 ∧ n2 ≤ 100 := by clear e1; unfold pg at e2; omega
  clear e1 e2
  have hx1 := hs1.lt (by rw [length_ints, hn1]; exact hp1.1)
  have hx3 := hs3.lt (by rw [length_ints, hn2]; exact hp2.1)
  have HA := Lib.hid h
  have H1 := Lib.hid (And.intro hs1 hx1)
  have H3 := Lib.hid (And.intro hs3 hx3)
  have HOK := Lib.hid hok
  have HN := Lib.hid hn
  have HL := Lib.hid (And.intro hl1 (And.intro hl2 (And.intro hn1 hn2)))
  have HP := Lib.hid (And.intro hp1 hp2)
  clear h hok hn hs1 hs3 hl1 hl2 hn1 hn2 hp1 hp2 hx1 hx3
  go_enter Try.func23, Try.ntmps23
  go_upto_region 1 with (fail)
  have HBX := boxes3 w [.slice (some ⟨b1, 0, none⟩) n c1, .slice (some ⟨b2, 0, none⟩) n c2, .int .i64 (q.first : Int), .int .i64 (q.next : Int), .int .i64 (q.asked : Int)] [.slice (some ⟨g1, 0, none⟩) n1 d1, .slice (some ⟨g3, 0, none⟩) n2 d3] [.slice none 0 0, .slice none 0 0, .int .i64 0, .int .i64 0, .int .i64 0, .slice none 0 0, .slice none 0 0, .slice none 0 0, .slice none 0 0] 37 42 57 rfl
  clear hz
  obtain ⟨hbp, hbs, hby, hbz, hbb⟩ := HBX
  have HPX := Lib.hid hbp
  have HSX := Lib.hid hbs
  have HYX := Lib.hid hby
  have HB := Lib.hid hbb
  clear hbp hbs hby hbb
  generalize ((w.alloc (.cells #[.slice (some ⟨b1, 0, none⟩) n c1, .slice (some ⟨b2, 0, none⟩) n c2, .int .i64 (q.first : Int), .int .i64 (q.next : Int), .int .i64 (q.asked : Int)] 37)).alloc (.cells #[.slice (some ⟨g1, 0, none⟩) n1 d1, .slice (some ⟨g3, 0, none⟩) n2 d3] 42)).alloc (.cells #[.slice none 0 0, .slice none 0 0, .int .i64 0, .int .i64 0, .int .i64 0, .slice none 0 0, .slice none 0 0, .slice none 0 0, .slice none 0 0] 57) = w1 at *
  obtain ⟨P1, hP1⟩ : ∃ P1, P1 = w.heap.size := ⟨_, rfl⟩
  obtain ⟨S1, hS1⟩ : ∃ S1, S1 = w.heap.size + 1 := ⟨_, rfl⟩
  obtain ⟨Y, hY⟩ : ∃ Y, Y = w.heap.size + 1 + 1 := ⟨_, rfl⟩
  rw [← hY] at HYX ⊢
  rw [← hS1] at HSX ⊢
  rw [← hP1] at HPX
  simp only [← hP1]
  have HLO := Lib.hid (show w.heap.size ≤ P1 ∧ w.heap.size ≤ S1 ∧ w.heap.size ≤ Y by omega)
  clear hP1 hS1 hY hbz
  have hz := state_zero w1
  have Z1 := box_below w1 (.cells #[.slice none 0 0, .slice none 0 0, .int .i64 0, .int .i64 0, .int .i64 0, .slice none 0 0, .slice none 0 0, .slice none 0 0, .slice none 0 0] 57)
  have RV0 := Lib.hid (alloc_rowV w1 57 [.slice none 0 0, .slice none 0 0, .int .i64 0, .int .i64 0, .int .i64 0, .slice none 0 0, .slice none 0 0, .slice none 0 0, .slice none 0 0])
  have HPX1 := Lib.hid (HPX.out.below HPX.out.lt Z1)
  have HSX1 := Lib.hid (HSX.out.below HSX.out.lt Z1)
  have HYX1 := Lib.hid (HYX.out.below HYX.out.lt Z1)
  have HB1 := Lib.hid (HB.out.trans (Z1.mono HB.out.size))
  have HLV := Lib.hid HB.out.size
  have p0 := HPX.out.cellAt (i := 0) rfl
  have p1 := HPX.out.cellAt (i := 1) rfl
  have p2 := HPX.out.cellAt (i := 2) rfl
  have p3 := HPX.out.cellAt (i := 3) rfl
  have p4 := HPX.out.cellAt (i := 4) rfl
  have q0 := HSX.out.cellAt (i := 0) rfl
  have q1 := HSX.out.cellAt (i := 1) rfl
  have HSZ := Lib.hid state_size
  go_upto_region 2 with (first
    | (refine wpList_store_row rfl 57 (.tmp 6) (.tmp 10) rfl w1.heap.size #[.slice (some ⟨b1, 0, none⟩) n c1, .slice (some ⟨b2, 0, none⟩) n c2, .int .i64 (q.first : Int), .int .i64 (q.next : Int), .int .i64 (q.asked : Int), .slice (some ⟨g1, 0, none⟩) n1 d1, .slice (some ⟨g3, 0, none⟩) n2 d3, .slice none 0 0, .slice none 0 0] rfl rfl _ _ RV0.out HSZ.out rfl (by simp [Value.oneCell']) ?_)
    | fail)
  clear hz Z1 p0 p1 p2 p3 p4 q0 q1
  obtain ⟨Vx, hV⟩ : ∃ Vx, Vx = w1.heap.size := ⟨_, rfl⟩
  rw [← hV] at RV0 HLV ⊢
  have HVN := Lib.hid (show P1 ≠ Vx ∧ S1 ≠ Vx ∧ Y ≠ Vx by have := HPX.out.lt; have := HSX.out.lt; have := HYX.out.lt; omega)
  have HPX := Lib.hid (RowV.butL HPX1.out (setRow_but _ Vx #[.slice (some ⟨b1, 0, none⟩) n c1, .slice (some ⟨b2, 0, none⟩) n c2, .int .i64 (q.first : Int), .int .i64 (q.next : Int), .int .i64 (q.asked : Int), .slice (some ⟨g1, 0, none⟩) n1 d1, .slice (some ⟨g3, 0, none⟩) n2 d3, .slice none 0 0, .slice none 0 0]) HVN.out.1)
  have HSX := Lib.hid (RowV.butL HSX1.out (setRow_but _ Vx #[.slice (some ⟨b1, 0, none⟩) n c1, .slice (some ⟨b2, 0, none⟩) n c2, .int .i64 (q.first : Int), .int .i64 (q.next : Int), .int .i64 (q.asked : Int), .slice (some ⟨g1, 0, none⟩) n1 d1, .slice (some ⟨g3, 0, none⟩) n2 d3, .slice none 0 0, .slice none 0 0]) HVN.out.2.1)
  have HYX := Lib.hid (RowV.butL HYX1.out (setRow_but _ Vx #[.slice (some ⟨b1, 0, none⟩) n c1, .slice (some ⟨b2, 0, none⟩) n c2, .int .i64 (q.first : Int), .int .i64 (q.next : Int), .int .i64 (q.asked : Int), .slice (some ⟨g1, 0, none⟩) n1 d1, .slice (some ⟨g3, 0, none⟩) n2 d3, .slice none 0 0, .slice none 0 0]) HVN.out.2.2)
  have HVX := Lib.hid (setRow_row [.slice (some ⟨b1, 0, none⟩) n c1, .slice (some ⟨b2, 0, none⟩) n c2, .int .i64 (q.first : Int), .int .i64 (q.next : Int), .int .i64 (q.asked : Int), .slice (some ⟨g1, 0, none⟩) n1 d1, .slice (some ⟨g3, 0, none⟩) n2 d3, .slice none 0 0, .slice none 0 0] RV0.out)
  have HB := Lib.hid (HB1.out.trans ((setRow_but _ Vx #[.slice (some ⟨b1, 0, none⟩) n c1, .slice (some ⟨b2, 0, none⟩) n c2, .int .i64 (q.first : Int), .int .i64 (q.next : Int), .int .i64 (q.asked : Int), .slice (some ⟨g1, 0, none⟩) n1 d1, .slice (some ⟨g3, 0, none⟩) n2 d3, .slice none 0 0, .slice none 0 0]).below (B := w.heap.size) (by simp; exact HLV.out) HB1.out.size))
  clear HPX1 HSX1 HYX1 RV0 HB1 hV
  generalize (w1.alloc (.cells #[.slice none 0 0, .slice none 0 0, .int .i64 0, .int .i64 0, .int .i64 0, .slice none 0 0, .slice none 0 0, .slice none 0 0, .slice none 0 0] 57)).setRow Vx #[.slice (some ⟨b1, 0, none⟩) n c1, .slice (some ⟨b2, 0, none⟩) n c2, .int .i64 (q.first : Int), .int .i64 (q.next : Int), .int .i64 (q.asked : Int), .slice (some ⟨g1, 0, none⟩) n1 d1, .slice (some ⟨g3, 0, none⟩) n2 d3, .slice none 0 0, .slice none 0 0] = w2 at *
  have p0 := HPX.out.cellAt (i := 0) rfl
  have q0 := HSX.out.cellAt (i := 0) rfl
  have q1 := HSX.out.cellAt (i := 1) rfl
  go_wp2_with fail
  refine (right_true (rright_is (HA.out.below HB.out) (H1.out.1.below H1.out.2 HB.out) (H3.out.1.below H3.out.2 HB.out) HL.out.1 HL.out.2.1 HN.out HL.out.2.2.1 HL.out.2.2.2) hyes).mono ?_
  rintro e w3 ⟨rfl, bz⟩
  have HPX3 := Lib.hid (HPX.out.below HPX.out.lt bz)
  have HSX3 := Lib.hid (HSX.out.below HSX.out.lt bz)
  have HYX3 := Lib.hid (HYX.out.below HYX.out.lt bz)
  have HVX3 := Lib.hid (HVX.out.below HVX.out.lt bz)
  have HB3 := Lib.hid (HB.out.trans (bz.mono HB.out.size))
  clear p0 q0 q1 bz HPX HSX HYX HVX HB
  obtain ⟨nd, hnd⟩ : ∃ nd, nd = need n := ⟨_, rfl⟩
  have HND := Lib.hid hnd.symm
  have hcmp : (q.room : Int) < (nd : Int) := by rw [hnd, ← HN.out]; omega
  clear hnd
  have HB := HB3
  clear HB3
  go_upto_region 4 with (fail)
  refine Inv2.wp_region_inv (fun b a wy => ∃ (z : Nat → Value), a = ⟨(List.toArray (.agg #[.slice (some ⟨b1, 0, none⟩) n c1, .slice (some ⟨b2, 0, none⟩) n c2, .int .i64 (q.first : Int), .int .i64 (q.next : Int), .int .i64 (q.asked : Int)] :: .agg #[.slice (some ⟨g1, 0, none⟩) n1 d1, .slice (some ⟨g3, 0, none⟩) n2 d3] :: .pointer (some ⟨P1, 0, none⟩) :: .pointer (some ⟨S1, 0, none⟩) :: .pointer (some ⟨Y, 0, none⟩) :: .int .i64 0 :: .pointer (some ⟨Vx, 0, none⟩) :: undef :: .agg #[.slice (some ⟨b1, 0, none⟩) n c1, .slice (some ⟨b2, 0, none⟩) n c2, .int .i64 (q.first : Int), .int .i64 (q.next : Int), .int .i64 (q.asked : Int)] :: .agg #[.slice (some ⟨g1, 0, none⟩) n1 d1, .slice (some ⟨g3, 0, none⟩) n2 d3] :: .agg #[.slice (some ⟨b1, 0, none⟩) n c1, .slice (some ⟨b2, 0, none⟩) n c2, .int .i64 (q.first : Int), .int .i64 (q.next : Int), .int .i64 (q.asked : Int), .slice (some ⟨g1, 0, none⟩) n1 d1, .slice (some ⟨g3, 0, none⟩) n2 d3, .slice none 0 0, .slice none 0 0] :: .pointer (some ⟨P1, 0, none⟩) :: .pointer (some ⟨P1, 0, none⟩) :: .slice (some ⟨b1, 0, none⟩) n c1 :: .agg #[.slice (some ⟨g1, 0, none⟩) n1 d1, .slice (some ⟨g3, 0, none⟩) n2 d3] :: .bool true :: .bool false :: undef :: (z 18) :: (z 19) :: (z 20) :: (z 21) :: (z 22) :: (z 23) :: (z 24) :: (z 25) :: undef :: undef :: undef :: undef :: undef :: undef :: undef :: undef :: undef :: undef :: undef :: undef :: undef :: undef :: undef :: undef :: undef :: undef :: undef :: undef :: undef :: undef :: undef :: undef :: undef :: undef :: undef :: undef :: [])), []⟩ ∧ Hid ((b 0 = true → (z 18) = .agg #[.slice (some ⟨b1, 0, none⟩) n c1, .slice (some ⟨b2, 0, none⟩) n c2, .int .i64 (q.first : Int), .int .i64 (q.next : Int), .int .i64 (q.asked : Int)]) ∧ (b 1 = true → (z 19) = .int .i64 (q.room : Int)) ∧ (b 2 = true → (z 20) = .pointer (some ⟨P1, 0, none⟩)) ∧ (b 3 = true → (z 21) = .pointer (some ⟨P1, 0, none⟩)) ∧ (b 4 = true → (z 22) = .slice (some ⟨b1, 0, none⟩) n c1) ∧ (b 5 = true → (z 23) = .int .i64 (n : Int)) ∧ (b 6 = true → (z 24) = .int .i64 (nd : Int)) ∧ (b 7 = true → (z 25) = .bool true)) ∧ Hid (Below w.heap.size w wy) ∧ Hid (RowV wy P1 37 [.slice (some ⟨b1, 0, none⟩) n c1, .slice (some ⟨b2, 0, none⟩) n c2, .int .i64 (q.first : Int), .int .i64 (q.next : Int), .int .i64 (q.asked : Int)] ∧ RowV wy S1 42 [.slice (some ⟨g1, 0, none⟩) n1 d1, .slice (some ⟨g3, 0, none⟩) n2 d3] ∧ RowV wy Y 57 [.slice none 0 0, .slice none 0 0, .int .i64 0, .int .i64 0, .int .i64 0, .slice none 0 0, .slice none 0 0, .slice none 0 0, .slice none 0 0] ∧ RowV wy Vx 57 [.slice (some ⟨b1, 0, none⟩) n c1, .slice (some ⟨b2, 0, none⟩) n c2, .int .i64 (q.first : Int), .int .i64 (q.next : Int), .int .i64 (q.asked : Int), .slice (some ⟨g1, 0, none⟩) n1 d1, .slice (some ⟨g3, 0, none⟩) n2 d3, .slice none 0 0, .slice none 0 0])) (by kernel_rfl) (by kernel_rfl) ?startR4 ?stepsR4 ?doneR4
  case startR4 =>
    intro b hb
    refine ⟨fun s => undef, rfl, Lib.hid ⟨?_, ?_, ?_, ?_, ?_, ?_, ?_, ?_⟩, Lib.hid (HB.out.trans <| (show Still w3 w3.drew from ⟨rfl, rfl, rfl, rfl⟩).below _), Lib.hid (⟨HPX3.out.still (show Still w3 w3.drew from ⟨rfl, rfl, rfl, rfl⟩), HSX3.out.still (show Still w3 w3.drew from ⟨rfl, rfl, rfl, rfl⟩), HYX3.out.still (show Still w3 w3.drew from ⟨rfl, rfl, rfl, rfl⟩), HVX3.out.still (show Still w3 w3.drew from ⟨rfl, rfl, rfl, rfl⟩)⟩)⟩
    all_goals (intro e; first | rfl | (rw [hb _ (by decide)] at e; cases e))
  case stepsR4 =>
    refine ⟨?_, ?_, ?_, ?_, ?_, ?_, ?_, ?_, trivial⟩
    · rintro b a wy hb hd ⟨z, rfl, HV, HW, HX⟩ K hK
      clear hd
      have p0 := HX.out.1.cellAt (i := 0) rfl
      have p1 := HX.out.1.cellAt (i := 1) rfl
      have p2 := HX.out.1.cellAt (i := 2) rfl
      have p3 := HX.out.1.cellAt (i := 3) rfl
      have p4 := HX.out.1.cellAt (i := 4) rfl
      go_simp
      have V := HV.out
      exact hK _ _ ⟨fun s => if s = 18 then .agg #[.slice (some ⟨b1, 0, none⟩) n c1, .slice (some ⟨b2, 0, none⟩) n c2, .int .i64 (q.first : Int), .int .i64 (q.next : Int), .int .i64 (q.asked : Int)] else z s, rfl, Lib.hid ⟨fun _ => rfl, V.2.1, V.2.2.1, V.2.2.2.1, V.2.2.2.2.1, V.2.2.2.2.2.1, V.2.2.2.2.2.2.1, V.2.2.2.2.2.2.2⟩, HW, HX⟩
    · rintro b a wy hb hd ⟨z, rfl, HV, HW, HX⟩ K hK
      simp [Region.binds] at hd
      have e0 : (z 18) = .agg #[.slice (some ⟨b1, 0, none⟩) n c1, .slice (some ⟨b2, 0, none⟩) n c2, .int .i64 (q.first : Int), .int .i64 (q.next : Int), .int .i64 (q.asked : Int)] := (HV.out.1) (by simp [hd])
      clear hd
      go_simp
      go_at_call 41
      refine (rroom_is (HA.out.below HW.out) HOK.out HN.out).mono ?_
      rintro e wz ⟨rfl, kz⟩
      try go_simp
      have V := HV.out
      exact hK _ _ ⟨fun s => if s = 19 then .int .i64 (q.room : Int) else if s = 18 then .agg #[.slice (some ⟨b1, 0, none⟩) n c1, .slice (some ⟨b2, 0, none⟩) n c2, .int .i64 (q.first : Int), .int .i64 (q.next : Int), .int .i64 (q.asked : Int)] else z s, rfl, Lib.hid ⟨fun _ => rfl, fun _ => rfl, V.2.2.1, V.2.2.2.1, V.2.2.2.2.1, V.2.2.2.2.2.1, V.2.2.2.2.2.2.1, V.2.2.2.2.2.2.2⟩, Lib.hid (HW.out.trans (kz.mono HW.out.size)), Lib.hid ⟨HX.out.1.below HX.out.1.lt kz, HX.out.2.1.below HX.out.2.1.lt kz, HX.out.2.2.1.below HX.out.2.2.1.lt kz, HX.out.2.2.2.below HX.out.2.2.2.lt kz⟩⟩
    · rintro b a wy hb hd ⟨z, rfl, HV, HW, HX⟩ K hK
      clear hd
      go_simp
      have V := HV.out
      exact hK _ _ ⟨fun s => if s = 20 then .pointer (some ⟨P1, 0, none⟩) else z s, rfl, Lib.hid ⟨V.1, V.2.1, fun _ => rfl, V.2.2.2.1, V.2.2.2.2.1, V.2.2.2.2.2.1, V.2.2.2.2.2.2.1, V.2.2.2.2.2.2.2⟩, HW, HX⟩
    · rintro b a wy hb hd ⟨z, rfl, HV, HW, HX⟩ K hK
      simp [Region.binds] at hd
      have e2 : (z 20) = .pointer (some ⟨P1, 0, none⟩) := (HV.out.2.2.1) (by simp [hd])
      clear hd
      go_simp
      have V := HV.out
      exact hK _ _ ⟨fun s => if s = 21 then .pointer (some ⟨P1, 0, none⟩) else if s = 20 then .pointer (some ⟨P1, 0, none⟩) else z s, rfl, Lib.hid ⟨V.1, V.2.1, fun _ => rfl, fun _ => rfl, V.2.2.2.2.1, V.2.2.2.2.2.1, V.2.2.2.2.2.2.1, V.2.2.2.2.2.2.2⟩, HW, HX⟩
    · rintro b a wy hb hd ⟨z, rfl, HV, HW, HX⟩ K hK
      simp [Region.binds] at hd
      have e3 : (z 21) = .pointer (some ⟨P1, 0, none⟩) := (HV.out.2.2.2.1) (by simp [hd])
      clear hd
      have p0 := HX.out.1.cellAt (i := 0) rfl
      go_simp
      have V := HV.out
      exact hK _ _ ⟨fun s => if s = 22 then .slice (some ⟨b1, 0, none⟩) n c1 else if s = 21 then .pointer (some ⟨P1, 0, none⟩) else z s, rfl, Lib.hid ⟨V.1, V.2.1, V.2.2.1, fun _ => rfl, fun _ => rfl, V.2.2.2.2.2.1, V.2.2.2.2.2.2.1, V.2.2.2.2.2.2.2⟩, HW, HX⟩
    · rintro b a wy hb hd ⟨z, rfl, HV, HW, HX⟩ K hK
      simp [Region.binds] at hd
      have e4 : (z 22) = .slice (some ⟨b1, 0, none⟩) n c1 := (HV.out.2.2.2.2.1) (by simp [hd])
      clear hd
      go_simp
      have V := HV.out
      exact hK _ _ ⟨fun s => if s = 23 then .int .i64 (n : Int) else if s = 22 then .slice (some ⟨b1, 0, none⟩) n c1 else z s, rfl, Lib.hid ⟨V.1, V.2.1, V.2.2.1, V.2.2.2.1, fun _ => rfl, fun _ => rfl, V.2.2.2.2.2.2.1, V.2.2.2.2.2.2.2⟩, HW, HX⟩
    · rintro b a wy hb hd ⟨z, rfl, HV, HW, HX⟩ K hK
      simp [Region.binds] at hd
      have e5 : (z 23) = .int .i64 (n : Int) := (HV.out.2.2.2.2.2.1) (by simp [hd])
      clear hd
      go_simp
      go_at_call 13
      refine (rneed_is hlo hhi HND.out _).mono ?_
      rintro e wz ⟨rfl, rfl⟩
      try go_simp
      have V := HV.out
      exact hK _ _ ⟨fun s => if s = 24 then .int .i64 (nd : Int) else if s = 23 then .int .i64 (n : Int) else z s, rfl, Lib.hid ⟨V.1, V.2.1, V.2.2.1, V.2.2.2.1, V.2.2.2.2.1, fun _ => rfl, fun _ => rfl, V.2.2.2.2.2.2.2⟩, HW, HX⟩
    · rintro b a wy hb hd ⟨z, rfl, HV, HW, HX⟩ K hK
      simp [Region.binds] at hd
      have e1 : (z 19) = .int .i64 (q.room : Int) := (HV.out.2.1) (by simp [hd])
      have e6 : (z 24) = .int .i64 (nd : Int) := (HV.out.2.2.2.2.2.2.1) (by simp [hd])
      clear hd
      go_simp
      have V := HV.out
      exact hK _ _ ⟨fun s => if s = 25 then .bool true else if s = 19 then .int .i64 (q.room : Int) else if s = 24 then .int .i64 (nd : Int) else z s, rfl, Lib.hid ⟨V.1, fun _ => rfl, V.2.2.1, V.2.2.2.1, V.2.2.2.2.1, V.2.2.2.2.2.1, fun _ => rfl, fun _ => rfl⟩, HW, HX⟩
  case doneR4 =>
    rintro b a w4 hb ⟨z, rfl, HV, HW, HX⟩
    have e0 := (HV.out.1) (hb 0)
    have e1 := (HV.out.2.1) (hb 1)
    have e2 := (HV.out.2.2.1) (hb 2)
    have e3 := (HV.out.2.2.2.1) (hb 3)
    have e4 := (HV.out.2.2.2.2.1) (hb 4)
    have e5 := (HV.out.2.2.2.2.2.1) (hb 5)
    have e6 := (HV.out.2.2.2.2.2.2.1) (hb 6)
    have e7 := (HV.out.2.2.2.2.2.2.2) (hb 7)
    simp only [e0, e1, e2, e3, e4, e5, e6, e7]
    clear HV e0 e1 e2 e3 e4 e5 e6 e7
    have HPX := Lib.hid HX.out.1
    have HSX := Lib.hid HX.out.2.1
    have HYX := Lib.hid HX.out.2.2.1
    have HVX := Lib.hid HX.out.2.2.2
    have HB4 := HW
    clear HX HW hb HPX3 HSX3 HYX3 HVX3 HB hcmp
    have HSZ := Lib.hid state_size
    go_wp2_with (first
      | (refine wpList_load_row rfl 57 (.tmp 6) rfl Vx rfl _ #[.slice (some ⟨b1, 0, none⟩) n c1, .slice (some ⟨b2, 0, none⟩) n c2, .int .i64 (q.first : Int), .int .i64 (q.next : Int), .int .i64 (q.asked : Int), .slice (some ⟨g1, 0, none⟩) n1 d1, .slice (some ⟨g3, 0, none⟩) n2 d3, .slice none 0 0, .slice none 0 0] _ _ HVX.out Try.underlying57 rfl HSZ.out ?_)
      | (refine wpList_store_row rfl 57 (.tmp 4) (.tmp 26) rfl Y #[.slice (some ⟨b1, 0, none⟩) n c1, .slice (some ⟨b2, 0, none⟩) n c2, .int .i64 (q.first : Int), .int .i64 (q.next : Int), .int .i64 (q.asked : Int), .slice (some ⟨g1, 0, none⟩) n1 d1, .slice (some ⟨g3, 0, none⟩) n2 d3, .slice none 0 0, .slice none 0 0] rfl rfl _ _ HYX.out HSZ.out rfl (by simp [Value.oneCell']) ?_)
      | fail)
    have HY8 := Lib.hid (setRow_row [.slice (some ⟨b1, 0, none⟩) n c1, .slice (some ⟨b2, 0, none⟩) n c2, .int .i64 (q.first : Int), .int .i64 (q.next : Int), .int .i64 (q.asked : Int), .slice (some ⟨g1, 0, none⟩) n1 d1, .slice (some ⟨g3, 0, none⟩) n2 d3, .slice none 0 0, .slice none 0 0] HYX.out)
    have HB8 := Lib.hid (HB4.out.trans ((setRow_but w4 Y #[.slice (some ⟨b1, 0, none⟩) n c1, .slice (some ⟨b2, 0, none⟩) n c2, .int .i64 (q.first : Int), .int .i64 (q.next : Int), .int .i64 (q.asked : Int), .slice (some ⟨g1, 0, none⟩) n1 d1, .slice (some ⟨g3, 0, none⟩) n2 d3, .slice none 0 0, .slice none 0 0]).below (B := w.heap.size) (by simp; exact HLO.out.2.2) HB4.out.size))
    refine bodyPost_ret (v := .tuple #[.agg #[.slice (some ⟨b1, 0, none⟩) n c1, .slice (some ⟨b2, 0, none⟩) n c2, .int .i64 (q.first : Int), .int .i64 (q.next : Int), .int .i64 (q.asked : Int), .slice (some ⟨g1, 0, none⟩) n1 d1, .slice (some ⟨g3, 0, none⟩) n2 d3, .slice none 0 0, .slice none 0 0], .int .i64 90]) ?_ rfl (show PlaceE n n1 n2 b1 c1 b2 c2 g1 d1 g3 d3 q 90 w _ _ from ⟨rfl, HB8.out⟩)
    clear HB8
    have r0 := HY8.out.cellAt (i := 0) rfl
    have r1 := HY8.out.cellAt (i := 1) rfl
    have r2 := HY8.out.cellAt (i := 2) rfl
    have r3 := HY8.out.cellAt (i := 3) rfl
    have r4 := HY8.out.cellAt (i := 4) rfl
    have r5 := HY8.out.cellAt (i := 5) rfl
    have r6 := HY8.out.cellAt (i := 6) rfl
    have r7 := HY8.out.cellAt (i := 7) rfl
    have r8 := HY8.out.cellAt (i := 8) rfl
    rw [results_cell_tmp rfl]
    go_simp

set_option maxRecDepth 100000 in
set_option maxHeartbeats 16000000 in
theorem rplace_yes {w : World} {n n1 n2 b1 c1 b2 c2 g1 d1 g3 d3 : Nat} {q : Q} {l1 l2 : List Nat} (h : RAt w b1 c1 b2 c2 q.s) (hok : q.Ok) (hn : q.s.n = n) (hs1 : HasV w g1 0 (ints l1)) (hs3 : HasV w g3 0 (ints l2)) (hl1 : l1.length = pg q.s.n) (hl2 : l2.length = pg (pg q.s.n)) (hn1 : l1.length = n1) (hn2 : l2.length = n2) (hyes : RightS q.s (toI l1) (toI l2)) (hroom : need q.s.n ≤ q.room) :
    Calls Try.prog 23 #[.agg #[.slice (some ⟨b1, 0, none⟩) n c1, .slice (some ⟨b2, 0, none⟩) n c2, .int .i64 (q.first : Int), .int .i64 (q.next : Int), .int .i64 (q.asked : Int)], .agg #[.slice (some ⟨g1, 0, none⟩) n1 d1, .slice (some ⟨g3, 0, none⟩) n2 d3]] w (PlaceR n n1 n2 b2 c2 q l1 l2 w) := by
  have hz := state_zero
  have hlo : 1 ≤ n := by have h9 : 0 < q.s.n := h.ok.lo; omega
  have hhi : n ≤ 4096 := by have h9 : q.s.n ≤ 4096 := h.ok.hi; omega
  have e1 : n1 = pg n := by rw [← hn1, hl1, hn]
  have e2 : n2 = pg n1 := by rw [← hn2, hl2, ← hl1, hn1]
  have hp1 : 0 < n1 ∧ n1 ≤ 100 := by clear e2; unfold pg at e1; omega
  have hp2 : 0 < n2 ∧ n2 ≤ 100 := by clear e1; unfold pg at e2; omega
  clear e1 e2
  have hx1 := hs1.lt (by rw [length_ints, hn1]; exact hp1.1)
  have hx3 := hs3.lt (by rw [length_ints, hn2]; exact hp2.1)
  have HA := Lib.hid h
  have H1 := Lib.hid (And.intro hs1 hx1)
  have H3 := Lib.hid (And.intro hs3 hx3)
  have HOK := Lib.hid hok
  have HN := Lib.hid hn
  have HL := Lib.hid (And.intro hl1 (And.intro hl2 (And.intro hn1 hn2)))
  have HP := Lib.hid (And.intro hp1 hp2)
  clear h hok hn hs1 hs3 hl1 hl2 hn1 hn2 hp1 hp2 hx1 hx3
  go_enter Try.func23, Try.ntmps23
  go_upto_region 1 with (fail)
  have HBX := boxes3 w [.slice (some ⟨b1, 0, none⟩) n c1, .slice (some ⟨b2, 0, none⟩) n c2, .int .i64 (q.first : Int), .int .i64 (q.next : Int), .int .i64 (q.asked : Int)] [.slice (some ⟨g1, 0, none⟩) n1 d1, .slice (some ⟨g3, 0, none⟩) n2 d3] [.slice none 0 0, .slice none 0 0, .int .i64 0, .int .i64 0, .int .i64 0, .slice none 0 0, .slice none 0 0, .slice none 0 0, .slice none 0 0] 37 42 57 rfl
  clear hz
  obtain ⟨hbp, hbs, hby, hbz, hbb⟩ := HBX
  have HPX := Lib.hid hbp
  have HSX := Lib.hid hbs
  have HYX := Lib.hid hby
  have HB := Lib.hid hbb
  clear hbp hbs hby hbb
  generalize ((w.alloc (.cells #[.slice (some ⟨b1, 0, none⟩) n c1, .slice (some ⟨b2, 0, none⟩) n c2, .int .i64 (q.first : Int), .int .i64 (q.next : Int), .int .i64 (q.asked : Int)] 37)).alloc (.cells #[.slice (some ⟨g1, 0, none⟩) n1 d1, .slice (some ⟨g3, 0, none⟩) n2 d3] 42)).alloc (.cells #[.slice none 0 0, .slice none 0 0, .int .i64 0, .int .i64 0, .int .i64 0, .slice none 0 0, .slice none 0 0, .slice none 0 0, .slice none 0 0] 57) = w1 at *
  obtain ⟨P1, hP1⟩ : ∃ P1, P1 = w.heap.size := ⟨_, rfl⟩
  obtain ⟨S1, hS1⟩ : ∃ S1, S1 = w.heap.size + 1 := ⟨_, rfl⟩
  obtain ⟨Y, hY⟩ : ∃ Y, Y = w.heap.size + 1 + 1 := ⟨_, rfl⟩
  rw [← hY] at HYX ⊢
  rw [← hS1] at HSX ⊢
  rw [← hP1] at HPX
  simp only [← hP1]
  have HLO := Lib.hid (show w.heap.size ≤ P1 ∧ w.heap.size ≤ S1 ∧ w.heap.size ≤ Y by omega)
  clear hP1 hS1 hY hbz
  have hz := state_zero w1
  have Z1 := box_below w1 (.cells #[.slice none 0 0, .slice none 0 0, .int .i64 0, .int .i64 0, .int .i64 0, .slice none 0 0, .slice none 0 0, .slice none 0 0, .slice none 0 0] 57)
  have RV0 := Lib.hid (alloc_rowV w1 57 [.slice none 0 0, .slice none 0 0, .int .i64 0, .int .i64 0, .int .i64 0, .slice none 0 0, .slice none 0 0, .slice none 0 0, .slice none 0 0])
  have HPX1 := Lib.hid (HPX.out.below HPX.out.lt Z1)
  have HSX1 := Lib.hid (HSX.out.below HSX.out.lt Z1)
  have HYX1 := Lib.hid (HYX.out.below HYX.out.lt Z1)
  have HB1 := Lib.hid (HB.out.trans (Z1.mono HB.out.size))
  have HLV := Lib.hid HB.out.size
  have p0 := HPX.out.cellAt (i := 0) rfl
  have p1 := HPX.out.cellAt (i := 1) rfl
  have p2 := HPX.out.cellAt (i := 2) rfl
  have p3 := HPX.out.cellAt (i := 3) rfl
  have p4 := HPX.out.cellAt (i := 4) rfl
  have q0 := HSX.out.cellAt (i := 0) rfl
  have q1 := HSX.out.cellAt (i := 1) rfl
  have HSZ := Lib.hid state_size
  go_upto_region 2 with (first
    | (refine wpList_store_row rfl 57 (.tmp 6) (.tmp 10) rfl w1.heap.size #[.slice (some ⟨b1, 0, none⟩) n c1, .slice (some ⟨b2, 0, none⟩) n c2, .int .i64 (q.first : Int), .int .i64 (q.next : Int), .int .i64 (q.asked : Int), .slice (some ⟨g1, 0, none⟩) n1 d1, .slice (some ⟨g3, 0, none⟩) n2 d3, .slice none 0 0, .slice none 0 0] rfl rfl _ _ RV0.out HSZ.out rfl (by simp [Value.oneCell']) ?_)
    | fail)
  clear hz Z1 p0 p1 p2 p3 p4 q0 q1
  obtain ⟨Vx, hV⟩ : ∃ Vx, Vx = w1.heap.size := ⟨_, rfl⟩
  rw [← hV] at RV0 HLV ⊢
  have HVN := Lib.hid (show P1 ≠ Vx ∧ S1 ≠ Vx ∧ Y ≠ Vx by have := HPX.out.lt; have := HSX.out.lt; have := HYX.out.lt; omega)
  have HPX := Lib.hid (RowV.butL HPX1.out (setRow_but _ Vx #[.slice (some ⟨b1, 0, none⟩) n c1, .slice (some ⟨b2, 0, none⟩) n c2, .int .i64 (q.first : Int), .int .i64 (q.next : Int), .int .i64 (q.asked : Int), .slice (some ⟨g1, 0, none⟩) n1 d1, .slice (some ⟨g3, 0, none⟩) n2 d3, .slice none 0 0, .slice none 0 0]) HVN.out.1)
  have HSX := Lib.hid (RowV.butL HSX1.out (setRow_but _ Vx #[.slice (some ⟨b1, 0, none⟩) n c1, .slice (some ⟨b2, 0, none⟩) n c2, .int .i64 (q.first : Int), .int .i64 (q.next : Int), .int .i64 (q.asked : Int), .slice (some ⟨g1, 0, none⟩) n1 d1, .slice (some ⟨g3, 0, none⟩) n2 d3, .slice none 0 0, .slice none 0 0]) HVN.out.2.1)
  have HYX := Lib.hid (RowV.butL HYX1.out (setRow_but _ Vx #[.slice (some ⟨b1, 0, none⟩) n c1, .slice (some ⟨b2, 0, none⟩) n c2, .int .i64 (q.first : Int), .int .i64 (q.next : Int), .int .i64 (q.asked : Int), .slice (some ⟨g1, 0, none⟩) n1 d1, .slice (some ⟨g3, 0, none⟩) n2 d3, .slice none 0 0, .slice none 0 0]) HVN.out.2.2)
  have HVX := Lib.hid (setRow_row [.slice (some ⟨b1, 0, none⟩) n c1, .slice (some ⟨b2, 0, none⟩) n c2, .int .i64 (q.first : Int), .int .i64 (q.next : Int), .int .i64 (q.asked : Int), .slice (some ⟨g1, 0, none⟩) n1 d1, .slice (some ⟨g3, 0, none⟩) n2 d3, .slice none 0 0, .slice none 0 0] RV0.out)
  have HB := Lib.hid (HB1.out.trans ((setRow_but _ Vx #[.slice (some ⟨b1, 0, none⟩) n c1, .slice (some ⟨b2, 0, none⟩) n c2, .int .i64 (q.first : Int), .int .i64 (q.next : Int), .int .i64 (q.asked : Int), .slice (some ⟨g1, 0, none⟩) n1 d1, .slice (some ⟨g3, 0, none⟩) n2 d3, .slice none 0 0, .slice none 0 0]).below (B := w.heap.size) (by simp; exact HLV.out) HB1.out.size))
  clear HPX1 HSX1 HYX1 RV0 HB1 hV
  generalize (w1.alloc (.cells #[.slice none 0 0, .slice none 0 0, .int .i64 0, .int .i64 0, .int .i64 0, .slice none 0 0, .slice none 0 0, .slice none 0 0, .slice none 0 0] 57)).setRow Vx #[.slice (some ⟨b1, 0, none⟩) n c1, .slice (some ⟨b2, 0, none⟩) n c2, .int .i64 (q.first : Int), .int .i64 (q.next : Int), .int .i64 (q.asked : Int), .slice (some ⟨g1, 0, none⟩) n1 d1, .slice (some ⟨g3, 0, none⟩) n2 d3, .slice none 0 0, .slice none 0 0] = w2 at *
  have p0 := HPX.out.cellAt (i := 0) rfl
  have q0 := HSX.out.cellAt (i := 0) rfl
  have q1 := HSX.out.cellAt (i := 1) rfl
  go_wp2_with fail
  refine (right_true (rright_is (HA.out.below HB.out) (H1.out.1.below H1.out.2 HB.out) (H3.out.1.below H3.out.2 HB.out) HL.out.1 HL.out.2.1 HN.out HL.out.2.2.1 HL.out.2.2.2) hyes).mono ?_
  rintro e w3 ⟨rfl, bz⟩
  have HPX3 := Lib.hid (HPX.out.below HPX.out.lt bz)
  have HSX3 := Lib.hid (HSX.out.below HSX.out.lt bz)
  have HYX3 := Lib.hid (HYX.out.below HYX.out.lt bz)
  have HVX3 := Lib.hid (HVX.out.below HVX.out.lt bz)
  have HB3 := Lib.hid (HB.out.trans (bz.mono HB.out.size))
  clear p0 q0 q1 bz HPX HSX HYX HVX HB
  obtain ⟨nd, hnd⟩ : ∃ nd, nd = need n := ⟨_, rfl⟩
  have HND := Lib.hid hnd.symm
  have hcmp : ¬ q.room < nd := by rw [hnd, ← HN.out]; omega
  clear hnd
  have HB := HB3
  clear HB3
  go_upto_region 4 with (fail)
  refine Inv2.wp_region_inv (fun b a wy => ∃ (z : Nat → Value), a = ⟨(List.toArray (.agg #[.slice (some ⟨b1, 0, none⟩) n c1, .slice (some ⟨b2, 0, none⟩) n c2, .int .i64 (q.first : Int), .int .i64 (q.next : Int), .int .i64 (q.asked : Int)] :: .agg #[.slice (some ⟨g1, 0, none⟩) n1 d1, .slice (some ⟨g3, 0, none⟩) n2 d3] :: .pointer (some ⟨P1, 0, none⟩) :: .pointer (some ⟨S1, 0, none⟩) :: .pointer (some ⟨Y, 0, none⟩) :: .int .i64 0 :: .pointer (some ⟨Vx, 0, none⟩) :: undef :: .agg #[.slice (some ⟨b1, 0, none⟩) n c1, .slice (some ⟨b2, 0, none⟩) n c2, .int .i64 (q.first : Int), .int .i64 (q.next : Int), .int .i64 (q.asked : Int)] :: .agg #[.slice (some ⟨g1, 0, none⟩) n1 d1, .slice (some ⟨g3, 0, none⟩) n2 d3] :: .agg #[.slice (some ⟨b1, 0, none⟩) n c1, .slice (some ⟨b2, 0, none⟩) n c2, .int .i64 (q.first : Int), .int .i64 (q.next : Int), .int .i64 (q.asked : Int), .slice (some ⟨g1, 0, none⟩) n1 d1, .slice (some ⟨g3, 0, none⟩) n2 d3, .slice none 0 0, .slice none 0 0] :: .pointer (some ⟨P1, 0, none⟩) :: .pointer (some ⟨P1, 0, none⟩) :: .slice (some ⟨b1, 0, none⟩) n c1 :: .agg #[.slice (some ⟨g1, 0, none⟩) n1 d1, .slice (some ⟨g3, 0, none⟩) n2 d3] :: .bool true :: .bool false :: undef :: (z 18) :: (z 19) :: (z 20) :: (z 21) :: (z 22) :: (z 23) :: (z 24) :: (z 25) :: undef :: undef :: undef :: undef :: undef :: undef :: undef :: undef :: undef :: undef :: undef :: undef :: undef :: undef :: undef :: undef :: undef :: undef :: undef :: undef :: undef :: undef :: undef :: undef :: undef :: undef :: undef :: undef :: [])), []⟩ ∧ Hid ((b 0 = true → (z 18) = .agg #[.slice (some ⟨b1, 0, none⟩) n c1, .slice (some ⟨b2, 0, none⟩) n c2, .int .i64 (q.first : Int), .int .i64 (q.next : Int), .int .i64 (q.asked : Int)]) ∧ (b 1 = true → (z 19) = .int .i64 (q.room : Int)) ∧ (b 2 = true → (z 20) = .pointer (some ⟨P1, 0, none⟩)) ∧ (b 3 = true → (z 21) = .pointer (some ⟨P1, 0, none⟩)) ∧ (b 4 = true → (z 22) = .slice (some ⟨b1, 0, none⟩) n c1) ∧ (b 5 = true → (z 23) = .int .i64 (n : Int)) ∧ (b 6 = true → (z 24) = .int .i64 (nd : Int)) ∧ (b 7 = true → (z 25) = .bool false)) ∧ Hid (Below w.heap.size w wy) ∧ Hid (RowV wy P1 37 [.slice (some ⟨b1, 0, none⟩) n c1, .slice (some ⟨b2, 0, none⟩) n c2, .int .i64 (q.first : Int), .int .i64 (q.next : Int), .int .i64 (q.asked : Int)] ∧ RowV wy S1 42 [.slice (some ⟨g1, 0, none⟩) n1 d1, .slice (some ⟨g3, 0, none⟩) n2 d3] ∧ RowV wy Y 57 [.slice none 0 0, .slice none 0 0, .int .i64 0, .int .i64 0, .int .i64 0, .slice none 0 0, .slice none 0 0, .slice none 0 0, .slice none 0 0] ∧ RowV wy Vx 57 [.slice (some ⟨b1, 0, none⟩) n c1, .slice (some ⟨b2, 0, none⟩) n c2, .int .i64 (q.first : Int), .int .i64 (q.next : Int), .int .i64 (q.asked : Int), .slice (some ⟨g1, 0, none⟩) n1 d1, .slice (some ⟨g3, 0, none⟩) n2 d3, .slice none 0 0, .slice none 0 0])) (by kernel_rfl) (by kernel_rfl) ?startR4y ?stepsR4y ?doneR4y
  case startR4y =>
    intro b hb
    refine ⟨fun s => undef, rfl, Lib.hid ⟨?_, ?_, ?_, ?_, ?_, ?_, ?_, ?_⟩, Lib.hid (HB.out.trans <| (show Still w3 w3.drew from ⟨rfl, rfl, rfl, rfl⟩).below _), Lib.hid (⟨HPX3.out.still (show Still w3 w3.drew from ⟨rfl, rfl, rfl, rfl⟩), HSX3.out.still (show Still w3 w3.drew from ⟨rfl, rfl, rfl, rfl⟩), HYX3.out.still (show Still w3 w3.drew from ⟨rfl, rfl, rfl, rfl⟩), HVX3.out.still (show Still w3 w3.drew from ⟨rfl, rfl, rfl, rfl⟩)⟩)⟩
    all_goals (intro e; first | rfl | (rw [hb _ (by decide)] at e; cases e))
  case stepsR4y =>
    refine ⟨?_, ?_, ?_, ?_, ?_, ?_, ?_, ?_, trivial⟩
    · rintro b a wy hb hd ⟨z, rfl, HV, HW, HX⟩ K hK
      clear hd
      have p0 := HX.out.1.cellAt (i := 0) rfl
      have p1 := HX.out.1.cellAt (i := 1) rfl
      have p2 := HX.out.1.cellAt (i := 2) rfl
      have p3 := HX.out.1.cellAt (i := 3) rfl
      have p4 := HX.out.1.cellAt (i := 4) rfl
      go_simp
      have V := HV.out
      exact hK _ _ ⟨fun s => if s = 18 then .agg #[.slice (some ⟨b1, 0, none⟩) n c1, .slice (some ⟨b2, 0, none⟩) n c2, .int .i64 (q.first : Int), .int .i64 (q.next : Int), .int .i64 (q.asked : Int)] else z s, rfl, Lib.hid ⟨fun _ => rfl, V.2.1, V.2.2.1, V.2.2.2.1, V.2.2.2.2.1, V.2.2.2.2.2.1, V.2.2.2.2.2.2.1, V.2.2.2.2.2.2.2⟩, HW, HX⟩
    · rintro b a wy hb hd ⟨z, rfl, HV, HW, HX⟩ K hK
      simp [Region.binds] at hd
      have e0 : (z 18) = .agg #[.slice (some ⟨b1, 0, none⟩) n c1, .slice (some ⟨b2, 0, none⟩) n c2, .int .i64 (q.first : Int), .int .i64 (q.next : Int), .int .i64 (q.asked : Int)] := (HV.out.1) (by simp [hd])
      clear hd
      go_simp
      go_at_call 41
      refine (rroom_is (HA.out.below HW.out) HOK.out HN.out).mono ?_
      rintro e wz ⟨rfl, kz⟩
      try go_simp
      have V := HV.out
      exact hK _ _ ⟨fun s => if s = 19 then .int .i64 (q.room : Int) else if s = 18 then .agg #[.slice (some ⟨b1, 0, none⟩) n c1, .slice (some ⟨b2, 0, none⟩) n c2, .int .i64 (q.first : Int), .int .i64 (q.next : Int), .int .i64 (q.asked : Int)] else z s, rfl, Lib.hid ⟨fun _ => rfl, fun _ => rfl, V.2.2.1, V.2.2.2.1, V.2.2.2.2.1, V.2.2.2.2.2.1, V.2.2.2.2.2.2.1, V.2.2.2.2.2.2.2⟩, Lib.hid (HW.out.trans (kz.mono HW.out.size)), Lib.hid ⟨HX.out.1.below HX.out.1.lt kz, HX.out.2.1.below HX.out.2.1.lt kz, HX.out.2.2.1.below HX.out.2.2.1.lt kz, HX.out.2.2.2.below HX.out.2.2.2.lt kz⟩⟩
    · rintro b a wy hb hd ⟨z, rfl, HV, HW, HX⟩ K hK
      clear hd
      go_simp
      have V := HV.out
      exact hK _ _ ⟨fun s => if s = 20 then .pointer (some ⟨P1, 0, none⟩) else z s, rfl, Lib.hid ⟨V.1, V.2.1, fun _ => rfl, V.2.2.2.1, V.2.2.2.2.1, V.2.2.2.2.2.1, V.2.2.2.2.2.2.1, V.2.2.2.2.2.2.2⟩, HW, HX⟩
    · rintro b a wy hb hd ⟨z, rfl, HV, HW, HX⟩ K hK
      simp [Region.binds] at hd
      have e2 : (z 20) = .pointer (some ⟨P1, 0, none⟩) := (HV.out.2.2.1) (by simp [hd])
      clear hd
      go_simp
      have V := HV.out
      exact hK _ _ ⟨fun s => if s = 21 then .pointer (some ⟨P1, 0, none⟩) else if s = 20 then .pointer (some ⟨P1, 0, none⟩) else z s, rfl, Lib.hid ⟨V.1, V.2.1, fun _ => rfl, fun _ => rfl, V.2.2.2.2.1, V.2.2.2.2.2.1, V.2.2.2.2.2.2.1, V.2.2.2.2.2.2.2⟩, HW, HX⟩
    · rintro b a wy hb hd ⟨z, rfl, HV, HW, HX⟩ K hK
      simp [Region.binds] at hd
      have e3 : (z 21) = .pointer (some ⟨P1, 0, none⟩) := (HV.out.2.2.2.1) (by simp [hd])
      clear hd
      have p0 := HX.out.1.cellAt (i := 0) rfl
      go_simp
      have V := HV.out
      exact hK _ _ ⟨fun s => if s = 22 then .slice (some ⟨b1, 0, none⟩) n c1 else if s = 21 then .pointer (some ⟨P1, 0, none⟩) else z s, rfl, Lib.hid ⟨V.1, V.2.1, V.2.2.1, fun _ => rfl, fun _ => rfl, V.2.2.2.2.2.1, V.2.2.2.2.2.2.1, V.2.2.2.2.2.2.2⟩, HW, HX⟩
    · rintro b a wy hb hd ⟨z, rfl, HV, HW, HX⟩ K hK
      simp [Region.binds] at hd
      have e4 : (z 22) = .slice (some ⟨b1, 0, none⟩) n c1 := (HV.out.2.2.2.2.1) (by simp [hd])
      clear hd
      go_simp
      have V := HV.out
      exact hK _ _ ⟨fun s => if s = 23 then .int .i64 (n : Int) else if s = 22 then .slice (some ⟨b1, 0, none⟩) n c1 else z s, rfl, Lib.hid ⟨V.1, V.2.1, V.2.2.1, V.2.2.2.1, fun _ => rfl, fun _ => rfl, V.2.2.2.2.2.2.1, V.2.2.2.2.2.2.2⟩, HW, HX⟩
    · rintro b a wy hb hd ⟨z, rfl, HV, HW, HX⟩ K hK
      simp [Region.binds] at hd
      have e5 : (z 23) = .int .i64 (n : Int) := (HV.out.2.2.2.2.2.1) (by simp [hd])
      clear hd
      go_simp
      go_at_call 13
      refine (rneed_is hlo hhi HND.out _).mono ?_
      rintro e wz ⟨rfl, rfl⟩
      try go_simp
      have V := HV.out
      exact hK _ _ ⟨fun s => if s = 24 then .int .i64 (nd : Int) else if s = 23 then .int .i64 (n : Int) else z s, rfl, Lib.hid ⟨V.1, V.2.1, V.2.2.1, V.2.2.2.1, V.2.2.2.2.1, fun _ => rfl, fun _ => rfl, V.2.2.2.2.2.2.2⟩, HW, HX⟩
    · rintro b a wy hb hd ⟨z, rfl, HV, HW, HX⟩ K hK
      simp [Region.binds] at hd
      have e1 : (z 19) = .int .i64 (q.room : Int) := (HV.out.2.1) (by simp [hd])
      have e6 : (z 24) = .int .i64 (nd : Int) := (HV.out.2.2.2.2.2.2.1) (by simp [hd])
      clear hd
      go_simp
      have V := HV.out
      exact hK _ _ ⟨fun s => if s = 25 then .bool false else if s = 19 then .int .i64 (q.room : Int) else if s = 24 then .int .i64 (nd : Int) else z s, rfl, Lib.hid ⟨V.1, fun _ => rfl, V.2.2.1, V.2.2.2.1, V.2.2.2.2.1, V.2.2.2.2.2.1, fun _ => rfl, fun _ => rfl⟩, HW, HX⟩
  case doneR4y =>
    rintro b a w4 hb ⟨z, rfl, HV, HW, HX⟩
    have e0 := (HV.out.1) (hb 0)
    have e1 := (HV.out.2.1) (hb 1)
    have e2 := (HV.out.2.2.1) (hb 2)
    have e3 := (HV.out.2.2.2.1) (hb 3)
    have e4 := (HV.out.2.2.2.2.1) (hb 4)
    have e5 := (HV.out.2.2.2.2.2.1) (hb 5)
    have e6 := (HV.out.2.2.2.2.2.2.1) (hb 6)
    have e7 := (HV.out.2.2.2.2.2.2.2) (hb 7)
    simp only [e0, e1, e2, e3, e4, e5, e6, e7]
    clear HV e0 e1 e2 e3 e4 e5 e6 e7
    have HPX := Lib.hid HX.out.1
    have HSX := Lib.hid HX.out.2.1
    have HYX := Lib.hid HX.out.2.2.1
    have HVX := Lib.hid HX.out.2.2.2
    have HB4 := HW
    clear HX HW hb HPX3 HSX3 HYX3 HVX3 HB hcmp
    go_upto_region 6 with (fail)
    have HB := HB4
    clear HB4
    refine Inv2.wp_region_inv (fun b a wy => ∃ (z : Nat → Value) (z27 : Value) (z30 : Value) (z31 : Value) (z34 : Value) (z35 : Value), a = ⟨(List.toArray (.agg #[.slice (some ⟨b1, 0, none⟩) n c1, .slice (some ⟨b2, 0, none⟩) n c2, .int .i64 (q.first : Int), .int .i64 (q.next : Int), .int .i64 (q.asked : Int)] :: .agg #[.slice (some ⟨g1, 0, none⟩) n1 d1, .slice (some ⟨g3, 0, none⟩) n2 d3] :: .pointer (some ⟨P1, 0, none⟩) :: .pointer (some ⟨S1, 0, none⟩) :: .pointer (some ⟨Y, 0, none⟩) :: .int .i64 0 :: .pointer (some ⟨Vx, 0, none⟩) :: undef :: .agg #[.slice (some ⟨b1, 0, none⟩) n c1, .slice (some ⟨b2, 0, none⟩) n c2, .int .i64 (q.first : Int), .int .i64 (q.next : Int), .int .i64 (q.asked : Int)] :: .agg #[.slice (some ⟨g1, 0, none⟩) n1 d1, .slice (some ⟨g3, 0, none⟩) n2 d3] :: .agg #[.slice (some ⟨b1, 0, none⟩) n c1, .slice (some ⟨b2, 0, none⟩) n c2, .int .i64 (q.first : Int), .int .i64 (q.next : Int), .int .i64 (q.asked : Int), .slice (some ⟨g1, 0, none⟩) n1 d1, .slice (some ⟨g3, 0, none⟩) n2 d3, .slice none 0 0, .slice none 0 0] :: .pointer (some ⟨P1, 0, none⟩) :: .pointer (some ⟨P1, 0, none⟩) :: .slice (some ⟨b1, 0, none⟩) n c1 :: .agg #[.slice (some ⟨g1, 0, none⟩) n1 d1, .slice (some ⟨g3, 0, none⟩) n2 d3] :: .bool true :: .bool false :: undef :: .agg #[.slice (some ⟨b1, 0, none⟩) n c1, .slice (some ⟨b2, 0, none⟩) n c2, .int .i64 (q.first : Int), .int .i64 (q.next : Int), .int .i64 (q.asked : Int)] :: .int .i64 (q.room : Int) :: .pointer (some ⟨P1, 0, none⟩) :: .pointer (some ⟨P1, 0, none⟩) :: .slice (some ⟨b1, 0, none⟩) n c1 :: .int .i64 (n : Int) :: .int .i64 (nd : Int) :: .bool false :: undef :: z27 :: (z 28) :: (z 29) :: z30 :: z31 :: (z 32) :: (z 33) :: z34 :: z35 :: (z 36) :: undef :: undef :: undef :: undef :: undef :: undef :: undef :: undef :: undef :: undef :: undef :: undef :: undef :: undef :: undef :: undef :: undef :: [])), []⟩ ∧ Hid ((b 1 = true → (z 28) = .pointer (some ⟨S1, 0, none⟩)) ∧ (b 2 = true → (z 29) = .slice (some ⟨g1, 0, none⟩) n1 d1) ∧ (b 5 = true → (z 32) = .pointer (some ⟨S1, 1, none⟩)) ∧ (b 6 = true → (z 33) = .slice (some ⟨g3, 0, none⟩) n2 d3) ∧ (b 9 = true → (z 36) = .pointer (some ⟨Vx, 5, none⟩))) ∧ Hid (Below w.heap.size w wy) ∧ Hid (∃ g5 d5 g7 d7, (b 0 = true → ∃ e5, z27 = .slice (some ⟨e5, 0, none⟩) 0 0) ∧ (b 4 = true → ∃ e7, z31 = .slice (some ⟨e7, 0, none⟩) 0 0) ∧ (b 3 = true → z30 = .slice (some ⟨g5, 0, none⟩) n1 d5 ∧ (∃ sp, RowV wy g5 3 (ints l1 ++ sp)) ∧ w.heap.size ≤ g5) ∧ (b 7 = true → b 3 = true ∧ z34 = .slice (some ⟨g7, 0, none⟩) n2 d7 ∧ ((∃ sp, RowV wy g7 3 (ints l2 ++ sp)) ∧ w.heap.size ≤ g7) ∧ g5 ≠ g7) ∧ (b 8 = true → z35 = .agg #[.slice (some ⟨g5, 0, none⟩) n1 d5, .slice (some ⟨g7, 0, none⟩) n2 d7] ∧ b 7 = true) ∧ (b 10 = false → RowV wy Vx 57 [.slice (some ⟨b1, 0, none⟩) n c1, .slice (some ⟨b2, 0, none⟩) n c2, .int .i64 (q.first : Int), .int .i64 (q.next : Int), .int .i64 (q.asked : Int), .slice (some ⟨g1, 0, none⟩) n1 d1, .slice (some ⟨g3, 0, none⟩) n2 d3, .slice none 0 0, .slice none 0 0]) ∧ (b 10 = true → b 8 = true ∧ RowV wy Vx 57 [.slice (some ⟨b1, 0, none⟩) n c1, .slice (some ⟨b2, 0, none⟩) n c2, .int .i64 (q.first : Int), .int .i64 (q.next : Int), .int .i64 (q.asked : Int), .slice (some ⟨g5, 0, none⟩) n1 d5, .slice (some ⟨g7, 0, none⟩) n2 d7, .slice none 0 0, .slice none 0 0]) ∧ (RowV wy P1 37 [.slice (some ⟨b1, 0, none⟩) n c1, .slice (some ⟨b2, 0, none⟩) n c2, .int .i64 (q.first : Int), .int .i64 (q.next : Int), .int .i64 (q.asked : Int)] ∧ RowV wy S1 42 [.slice (some ⟨g1, 0, none⟩) n1 d1, .slice (some ⟨g3, 0, none⟩) n2 d3] ∧ RowV wy Y 57 [.slice none 0 0, .slice none 0 0, .int .i64 0, .int .i64 0, .int .i64 0, .slice none 0 0, .slice none 0 0, .slice none 0 0, .slice none 0 0]))) (by kernel_rfl) (by kernel_rfl) ?startR6 ?stepsR6 ?doneR6
    case startR6 =>
      intro b hb
      refine ⟨fun s => undef, undef, undef, undef, undef, undef, rfl, Lib.hid ⟨?_, ?_, ?_, ?_, ?_⟩, Lib.hid (HB.out.trans <| (show Still w4 w4.drew from ⟨rfl, rfl, rfl, rfl⟩).below _), Lib.hid (⟨0, 0, 0, 0, (fun e => by rw [hb _ (by decide)] at e; cases e), (fun e => by rw [hb _ (by decide)] at e; cases e), (fun e => by rw [hb _ (by decide)] at e; cases e), (fun e => by rw [hb _ (by decide)] at e; cases e), (fun e => by rw [hb _ (by decide)] at e; cases e), fun _ => HVX.out.still (show Still w4 w4.drew from ⟨rfl, rfl, rfl, rfl⟩), (fun e => by rw [hb _ (by decide)] at e; cases e), HPX.out.still (show Still w4 w4.drew from ⟨rfl, rfl, rfl, rfl⟩), HSX.out.still (show Still w4 w4.drew from ⟨rfl, rfl, rfl, rfl⟩), HYX.out.still (show Still w4 w4.drew from ⟨rfl, rfl, rfl, rfl⟩)⟩)⟩
      all_goals (intro e; first | rfl | (rw [hb _ (by decide)] at e; cases e))
    case stepsR6 =>
      refine ⟨?_, ?_, ?_, ?_, ?_, ?_, ?_, ?_, ?_, ?_, ?_, trivial⟩
      · rintro b a wy hb hd ⟨z, z27, z30, z31, z34, z35, rfl, HV, HW, HX⟩ K hK
        clear hd
        obtain ⟨g5, d5, g7, d7, x1, x2, x3, x4, x5, x6, x7, x8⟩ := HX.out
        go_simp
        have kz := (Below.refl wy.heap.size wy).alloc (Nat.le_refl _) (.cells #[] 3)
        have V := HV.out
        exact hK _ _ ⟨fun s => z s, _, _, _, _, _, rfl, Lib.hid ⟨V.1, V.2.1, V.2.2.1, V.2.2.2.1, V.2.2.2.2⟩, Lib.hid (HW.out.trans (kz.mono HW.out.size)), Lib.hid ⟨g5, d5, g7, d7, fun _ => ⟨_, rfl⟩, x2, fun e => ⟨(x3 e).1, exB (x3 e).2.1 kz, (x3 e).2.2⟩, fun e => ⟨(x4 e).1, (x4 e).2.1, ⟨exB (x4 e).2.2.1.1 kz, (x4 e).2.2.1.2⟩, (x4 e).2.2.2⟩, x5, fun e => (x6 e).below (x6 e).lt kz, fun e => ⟨(x7 e).1, (x7 e).2.below (x7 e).2.lt kz⟩, ⟨x8.1.below x8.1.lt kz, x8.2.1.below x8.2.1.lt kz, x8.2.2.below x8.2.2.lt kz⟩⟩⟩
      · rintro b a wy hb hd ⟨z, z27, z30, z31, z34, z35, rfl, HV, HW, HX⟩ K hK
        clear hd
        go_simp
        have V := HV.out
        exact hK _ _ ⟨fun s => if s = 28 then .pointer (some ⟨S1, 0, none⟩) else z s, _, _, _, _, _, rfl, Lib.hid ⟨fun _ => rfl, V.2.1, V.2.2.1, V.2.2.2.1, V.2.2.2.2⟩, HW, HX⟩
      · rintro b a wy hb hd ⟨z, z27, z30, z31, z34, z35, rfl, HV, HW, HX⟩ K hK
        simp [Region.binds] at hd
        have e1 : (z 28) = .pointer (some ⟨S1, 0, none⟩) := (HV.out.1) (by simp [hd])
        clear hd
        obtain ⟨g5, d5, g7, d7, x1, x2, x3, x4, x5, x6, x7, x8⟩ := HX.out
        have q0 := x8.2.1.cellAt (i := 0) rfl
        clear x1 x2 x3 x4 x5 x6 x7 x8
        go_simp
        have V := HV.out
        exact hK _ _ ⟨fun s => if s = 29 then .slice (some ⟨g1, 0, none⟩) n1 d1 else if s = 28 then .pointer (some ⟨S1, 0, none⟩) else z s, _, _, _, _, _, rfl, Lib.hid ⟨fun _ => rfl, fun _ => rfl, V.2.2.1, V.2.2.2.1, V.2.2.2.2⟩, HW, HX⟩
      · rintro b a wy hb hd ⟨z, z27, z30, z31, z34, z35, rfl, HV, HW, HX⟩ K hK
        simp [Region.binds] at hd
        have dd0 : b 0 = true := by simp [hd]
        have e2 : (z 29) = .slice (some ⟨g1, 0, none⟩) n1 d1 := (HV.out.2.1) (by simp [hd])
        clear hd
        obtain ⟨g5, d5, g7, d7, x1, x2, x3, x4, x5, x6, x7, x8⟩ := HX.out
        obtain ⟨e9, rfl⟩ := x1 dd0
        obtain ⟨gn, dn, w9, hrun, hsp, kz, hge⟩ := app_row (b0 := ⟨e9, 0, none⟩) (c := d1) (H1.out.1.below H1.out.2 HW.out) HL.out.2.2.1 (by rw [HL.out.2.2.1]; exact HP.out.1.1) (by rw [HL.out.2.2.1]; exact Nat.le_trans HP.out.1.2 (by decide)) 31
        rw [e2]
        refine if_wanted (by rfl) (wp_append_run (.tmp 27) (.tmp 29) 31 rfl _ _ rfl rfl _ w9 hrun ?_)
        have V := HV.out
        exact hK _ _ ⟨fun s => if s = 29 then .slice (some ⟨g1, 0, none⟩) n1 d1 else z s, _, _, _, _, _, rfl, Lib.hid ⟨V.1, fun _ => rfl, V.2.2.1, V.2.2.2.1, V.2.2.2.2⟩, Lib.hid (HW.out.trans (kz.mono HW.out.size)), Lib.hid ⟨gn, dn, g7, d7, fun _ => ⟨e9, rfl⟩, x2, fun _ => ⟨rfl, hsp, Nat.le_trans HW.out.size hge⟩, fun e => absurd (x4 e).1 (by rw [hb]; decide), fun e => absurd (x4 (x5 e).2).1 (by rw [hb]; decide), fun e => (x6 e).below (x6 e).lt kz, fun e => absurd (x4 (x5 (x7 e).1).2).1 (by rw [hb]; decide), ⟨x8.1.below x8.1.lt kz, x8.2.1.below x8.2.1.lt kz, x8.2.2.below x8.2.2.lt kz⟩⟩⟩
      · rintro b a wy hb hd ⟨z, z27, z30, z31, z34, z35, rfl, HV, HW, HX⟩ K hK
        clear hd
        obtain ⟨g5, d5, g7, d7, x1, x2, x3, x4, x5, x6, x7, x8⟩ := HX.out
        go_simp
        have kz := (Below.refl wy.heap.size wy).alloc (Nat.le_refl _) (.cells #[] 3)
        have V := HV.out
        exact hK _ _ ⟨fun s => z s, _, _, _, _, _, rfl, Lib.hid ⟨V.1, V.2.1, V.2.2.1, V.2.2.2.1, V.2.2.2.2⟩, Lib.hid (HW.out.trans (kz.mono HW.out.size)), Lib.hid ⟨g5, d5, g7, d7, x1, fun _ => ⟨_, rfl⟩, fun e => ⟨(x3 e).1, exB (x3 e).2.1 kz, (x3 e).2.2⟩, fun e => ⟨(x4 e).1, (x4 e).2.1, ⟨exB (x4 e).2.2.1.1 kz, (x4 e).2.2.1.2⟩, (x4 e).2.2.2⟩, x5, fun e => (x6 e).below (x6 e).lt kz, fun e => ⟨(x7 e).1, (x7 e).2.below (x7 e).2.lt kz⟩, ⟨x8.1.below x8.1.lt kz, x8.2.1.below x8.2.1.lt kz, x8.2.2.below x8.2.2.lt kz⟩⟩⟩
      · rintro b a wy hb hd ⟨z, z27, z30, z31, z34, z35, rfl, HV, HW, HX⟩ K hK
        clear hd
        go_simp
        have V := HV.out
        exact hK _ _ ⟨fun s => if s = 32 then .pointer (some ⟨S1, 1, none⟩) else z s, _, _, _, _, _, rfl, Lib.hid ⟨V.1, V.2.1, fun _ => rfl, V.2.2.2.1, V.2.2.2.2⟩, HW, HX⟩
      · rintro b a wy hb hd ⟨z, z27, z30, z31, z34, z35, rfl, HV, HW, HX⟩ K hK
        simp [Region.binds] at hd
        have e5 : (z 32) = .pointer (some ⟨S1, 1, none⟩) := (HV.out.2.2.1) (by simp [hd])
        clear hd
        obtain ⟨g5, d5, g7, d7, x1, x2, x3, x4, x5, x6, x7, x8⟩ := HX.out
        have q1 := x8.2.1.cellAt (i := 1) rfl
        clear x1 x2 x3 x4 x5 x6 x7 x8
        go_simp
        have V := HV.out
        exact hK _ _ ⟨fun s => if s = 33 then .slice (some ⟨g3, 0, none⟩) n2 d3 else if s = 32 then .pointer (some ⟨S1, 1, none⟩) else z s, _, _, _, _, _, rfl, Lib.hid ⟨V.1, V.2.1, fun _ => rfl, fun _ => rfl, V.2.2.2.2⟩, HW, HX⟩
      · rintro b a wy hb hd ⟨z, z27, z30, z31, z34, z35, rfl, HV, HW, HX⟩ K hK
        simp [Region.binds] at hd
        have dd4 : b 4 = true := by simp [hd]
        have e6 : (z 33) = .slice (some ⟨g3, 0, none⟩) n2 d3 := (HV.out.2.2.2.1) (by simp [hd])
        have d3h : b 3 = true := by simp [hd]
        clear hd
        obtain ⟨g5, d5, g7, d7, x1, x2, x3, x4, x5, x6, x7, x8⟩ := HX.out
        obtain ⟨e9, rfl⟩ := x2 dd4
        obtain ⟨gn, dn, w9, hrun, hsp, kz, hge⟩ := app_row (b0 := ⟨e9, 0, none⟩) (c := d3) (H3.out.1.below H3.out.2 HW.out) HL.out.2.2.2 (by rw [HL.out.2.2.2]; exact HP.out.2.1) (by rw [HL.out.2.2.2]; exact Nat.le_trans HP.out.2.2 (by decide)) 31
        obtain ⟨rfl, hO5, hg5⟩ := x3 d3h
        rw [e6]
        refine if_wanted (by rfl) (wp_append_run (.tmp 31) (.tmp 33) 31 rfl _ _ rfl rfl _ w9 hrun ?_)
        have V := HV.out
        exact hK _ _ ⟨fun s => if s = 33 then .slice (some ⟨g3, 0, none⟩) n2 d3 else z s, _, _, _, _, _, rfl, Lib.hid ⟨V.1, V.2.1, V.2.2.1, fun _ => rfl, V.2.2.2.2⟩, Lib.hid (HW.out.trans (kz.mono HW.out.size)), Lib.hid ⟨g5, d5, gn, dn, x1, fun _ => ⟨e9, rfl⟩, fun _ => ⟨rfl, exB hO5 kz, hg5⟩, fun _ => ⟨d3h, rfl, ⟨hsp, Nat.le_trans HW.out.size hge⟩, (by have := exLt hO5; omega)⟩, fun e => absurd (x5 e).2 (by rw [hb]; decide), fun e => (x6 e).below (x6 e).lt kz, fun e => absurd (x5 (x7 e).1).2 (by rw [hb]; decide), ⟨x8.1.below x8.1.lt kz, x8.2.1.below x8.2.1.lt kz, x8.2.2.below x8.2.2.lt kz⟩⟩⟩
      · rintro b a wy hb hd ⟨z, z27, z30, z31, z34, z35, rfl, HV, HW, HX⟩ K hK
        simp [Region.binds] at hd
        have dd3 : b 3 = true := by simp [hd]
        have dd7 : b 7 = true := by simp [hd]
        clear hd
        obtain ⟨g5, d5, g7, d7, x1, x2, x3, x4, x5, x6, x7, x8⟩ := HX.out
        obtain ⟨d3, rfl, hO7, hne⟩ := x4 dd7
        obtain ⟨rfl, hO5⟩ := x3 d3
        have HD3 := Lib.hid d3
        clear d3
        go_simp
        have V := HV.out
        exact hK _ _ ⟨fun s => z s, _, _, _, _, _, rfl, Lib.hid ⟨V.1, V.2.1, V.2.2.1, V.2.2.2.1, V.2.2.2.2⟩, HW, Lib.hid ⟨g5, d5, g7, d7, x1, x2, fun _ => ⟨rfl, hO5⟩, fun _ => ⟨HD3.out, rfl, hO7, hne⟩, fun _ => ⟨rfl, dd7⟩, x6, fun e => absurd (x7 e).1 (by rw [hb]; decide), x8⟩⟩
      · rintro b a wy hb hd ⟨z, z27, z30, z31, z34, z35, rfl, HV, HW, HX⟩ K hK
        clear hd
        go_simp
        have V := HV.out
        exact hK _ _ ⟨fun s => if s = 36 then .pointer (some ⟨Vx, 5, none⟩) else z s, _, _, _, _, _, rfl, Lib.hid ⟨V.1, V.2.1, V.2.2.1, V.2.2.2.1, fun _ => rfl⟩, HW, HX⟩
      · rintro b a wy hb hd ⟨z, z27, z30, z31, z34, z35, rfl, HV, HW, HX⟩ K hK
        simp [Region.binds] at hd
        have e9 : (z 36) = .pointer (some ⟨Vx, 5, none⟩) := (HV.out.2.2.2.2) (by simp [hd])
        have dd8 : b 8 = true := by simp [hd]
        clear hd
        obtain ⟨g5, d5, g7, d7, x1, x2, x3, x4, x5, x6, x7, x8⟩ := HX.out
        obtain ⟨rfl, d7t⟩ := x5 dd8
        obtain ⟨d3, rfl, hO7, hne⟩ := x4 d7t
        obtain ⟨rfl, hO5⟩ := x3 d3
        have hr := x6 hb
        have q5 := hr.cellAt (i := 5) rfl
        have q6 := hr.cellAt (i := 6) rfl
        have fz5 := hr.free 5
        have fz6 := hr.free 6
        have HA3 := Lib.hid ((hr.set 5 (.slice (some ⟨g5, 0, none⟩) n1 d5)).set 6 (.slice (some ⟨g7, 0, none⟩) n2 d7))
        have HU := Lib.hid ((ButL.set wy Vx 5 (.slice (some ⟨g5, 0, none⟩) n1 d5)).trans (ButL.set _ Vx 6 (.slice (some ⟨g7, 0, none⟩) n2 d7)))
        have H5 := Lib.hid (And.intro (exU hO5.1 HU.out (by simp; exact exNe hO5.1 hr (by decide))) hO5.2)
        have H7 := Lib.hid (And.intro (exU hO7.1 HU.out (by simp; exact exNe hO7.1 hr (by decide))) hO7.2)
        have H8 := Lib.hid (And.intro (RowV.butL x8.1 HU.out HVN.out.1) (And.intro (RowV.butL x8.2.1 HU.out HVN.out.2.1) (RowV.butL x8.2.2 HU.out HVN.out.2.2)))
        have HD := Lib.hid (And.intro d3 (And.intro d7t (And.intro dd8 hne)))
        have HXX := Lib.hid (And.intro x1 x2)
        clear x1 x2 x3 x4 x5 x6 x7 x8 hr hO5 hO7 d3 d7t dd8 hne HX
        go_simp
        have V := HV.out
        exact hK _ _ ⟨fun s => if s = 36 then .pointer (some ⟨Vx, 5, none⟩) else z s, _, _, _, _, _, rfl, Lib.hid ⟨V.1, V.2.1, V.2.2.1, V.2.2.2.1, fun _ => rfl⟩, Lib.hid (HW.out.trans (HU.out.below (B := w.heap.size) (by simp; exact HLV.out) HW.out.size)), Lib.hid ⟨g5, d5, g7, d7, HXX.out.1, HXX.out.2, fun _ => ⟨rfl, H5.out⟩, fun _ => ⟨HD.out.1, rfl, H7.out, HD.out.2.2.2⟩, fun _ => ⟨rfl, HD.out.2.1⟩, fun e => (by cases e), fun _ => ⟨HD.out.2.2.1, HA3.out⟩, H8.out⟩⟩
    case doneR6 =>
      rintro b a w6 hb ⟨z, z27, z30, z31, z34, z35, rfl, HV, HW, HX⟩
      have e1 := (HV.out.1) (hb 1)
      have e2 := (HV.out.2.1) (hb 2)
      have e5 := (HV.out.2.2.1) (hb 5)
      have e6 := (HV.out.2.2.2.1) (hb 6)
      have e9 := (HV.out.2.2.2.2) (hb 9)
      simp only [e1, e2, e5, e6, e9]
      clear HV e1 e2 e5 e6 e9
      obtain ⟨g5, d5, g7, d7, x1, x2, x3, x4, x5, _, x7, x8⟩ := HX.out
      obtain ⟨e5, rfl⟩ := x1 (hb 0)
      obtain ⟨e7, rfl⟩ := x2 (hb 4)
      obtain ⟨rfl, h5⟩ := x3 (hb 3)
      obtain ⟨_, rfl, h7, hne⟩ := x4 (hb 7)
      obtain ⟨rfl, _⟩ := x5 (hb 8)
      have HG5 := Lib.hid h5
      have HG7 := Lib.hid h7
      have HNE := Lib.hid hne
      have HVX6 := Lib.hid (x7 (hb 10)).2
      have HPX6 := Lib.hid x8.1
      have HSX6 := Lib.hid x8.2.1
      have HYX6 := Lib.hid x8.2.2
      have HB := HW
      clear x1 x2 x3 x4 x5 x7 x8 h5 h7 hne hb HX HW HPX HSX HYX HVX
      go_upto_region 7 with (fail)
      refine Inv2.wp_region_inv (fun b a wy => ∃ (z : Nat → Value) (z40 : Value) (z44 : Value), a = ⟨(List.toArray (.agg #[.slice (some ⟨b1, 0, none⟩) n c1, .slice (some ⟨b2, 0, none⟩) n c2, .int .i64 (q.first : Int), .int .i64 (q.next : Int), .int .i64 (q.asked : Int)] :: .agg #[.slice (some ⟨g1, 0, none⟩) n1 d1, .slice (some ⟨g3, 0, none⟩) n2 d3] :: .pointer (some ⟨P1, 0, none⟩) :: .pointer (some ⟨S1, 0, none⟩) :: .pointer (some ⟨Y, 0, none⟩) :: .int .i64 0 :: .pointer (some ⟨Vx, 0, none⟩) :: undef :: .agg #[.slice (some ⟨b1, 0, none⟩) n c1, .slice (some ⟨b2, 0, none⟩) n c2, .int .i64 (q.first : Int), .int .i64 (q.next : Int), .int .i64 (q.asked : Int)] :: .agg #[.slice (some ⟨g1, 0, none⟩) n1 d1, .slice (some ⟨g3, 0, none⟩) n2 d3] :: .agg #[.slice (some ⟨b1, 0, none⟩) n c1, .slice (some ⟨b2, 0, none⟩) n c2, .int .i64 (q.first : Int), .int .i64 (q.next : Int), .int .i64 (q.asked : Int), .slice (some ⟨g1, 0, none⟩) n1 d1, .slice (some ⟨g3, 0, none⟩) n2 d3, .slice none 0 0, .slice none 0 0] :: .pointer (some ⟨P1, 0, none⟩) :: .pointer (some ⟨P1, 0, none⟩) :: .slice (some ⟨b1, 0, none⟩) n c1 :: .agg #[.slice (some ⟨g1, 0, none⟩) n1 d1, .slice (some ⟨g3, 0, none⟩) n2 d3] :: .bool true :: .bool false :: undef :: .agg #[.slice (some ⟨b1, 0, none⟩) n c1, .slice (some ⟨b2, 0, none⟩) n c2, .int .i64 (q.first : Int), .int .i64 (q.next : Int), .int .i64 (q.asked : Int)] :: .int .i64 (q.room : Int) :: .pointer (some ⟨P1, 0, none⟩) :: .pointer (some ⟨P1, 0, none⟩) :: .slice (some ⟨b1, 0, none⟩) n c1 :: .int .i64 (n : Int) :: .int .i64 (nd : Int) :: .bool false :: undef :: .slice (some ⟨e5, 0, none⟩) 0 0 :: .pointer (some ⟨S1, 0, none⟩) :: .slice (some ⟨g1, 0, none⟩) n1 d1 :: .slice (some ⟨g5, 0, none⟩) n1 d5 :: .slice (some ⟨e7, 0, none⟩) 0 0 :: .pointer (some ⟨S1, 1, none⟩) :: .slice (some ⟨g3, 0, none⟩) n2 d3 :: .slice (some ⟨g7, 0, none⟩) n2 d7 :: .agg #[.slice (some ⟨g5, 0, none⟩) n1 d5, .slice (some ⟨g7, 0, none⟩) n2 d7] :: .pointer (some ⟨Vx, 5, none⟩) :: (z 37) :: (z 38) :: (z 39) :: z40 :: (z 41) :: (z 42) :: (z 43) :: z44 :: (z 45) :: (z 46) :: undef :: undef :: undef :: undef :: undef :: undef :: undef :: [])), []⟩ ∧ Hid ((b 0 = true → (z 37) = .pointer (some ⟨S1, 0, none⟩)) ∧ (b 1 = true → (z 38) = .slice (some ⟨g1, 0, none⟩) n1 d1) ∧ (b 2 = true → (z 39) = .int .i64 (n1 : Int)) ∧ (b 4 = true → (z 41) = .pointer (some ⟨S1, 1, none⟩)) ∧ (b 5 = true → (z 42) = .slice (some ⟨g3, 0, none⟩) n2 d3) ∧ (b 6 = true → (z 43) = .int .i64 (n2 : Int)) ∧ (b 8 = true → (z 45) = .pointer (some ⟨Vx, 7, none⟩)) ∧ (b 10 = true → (z 46) = .pointer (some ⟨Vx, 8, none⟩))) ∧ Hid (Below w.heap.size w wy) ∧ Hid (∃ (h1 h3 : Nat) (v7 v8 : Value), (b 3 = true → z40 = .slice (some ⟨h1, 0, none⟩) n1 n1 ∧ w6.heap.size ≤ h1 ∧ RowV wy h1 4 (bools (List.replicate n1 false))) ∧ (b 7 = true → z44 = .slice (some ⟨h3, 0, none⟩) n2 n2 ∧ w6.heap.size ≤ h3 ∧ RowV wy h3 4 (bools (List.replicate n2 false))) ∧ (b 3 = true → b 7 = true → h1 ≠ h3) ∧ (b 9 = true → b 3 = true ∧ v7 = .slice (some ⟨h1, 0, none⟩) n1 n1) ∧ (b 11 = true → b 7 = true ∧ v8 = .slice (some ⟨h3, 0, none⟩) n2 n2) ∧ RowV wy Vx 57 [.slice (some ⟨b1, 0, none⟩) n c1, .slice (some ⟨b2, 0, none⟩) n c2, .int .i64 (q.first : Int), .int .i64 (q.next : Int), .int .i64 (q.asked : Int), .slice (some ⟨g5, 0, none⟩) n1 d5, .slice (some ⟨g7, 0, none⟩) n2 d7, v7, v8] ∧ (∃ A7 m7 e7, v7 = .slice A7 m7 e7) ∧ (∃ A8 m8 e8, v8 = .slice A8 m8 e8) ∧ (∃ sp, RowV wy g5 3 (ints l1 ++ sp)) ∧ (∃ sp, RowV wy g7 3 (ints l2 ++ sp)) ∧ (RowV wy P1 37 [.slice (some ⟨b1, 0, none⟩) n c1, .slice (some ⟨b2, 0, none⟩) n c2, .int .i64 (q.first : Int), .int .i64 (q.next : Int), .int .i64 (q.asked : Int)] ∧ RowV wy S1 42 [.slice (some ⟨g1, 0, none⟩) n1 d1, .slice (some ⟨g3, 0, none⟩) n2 d3] ∧ RowV wy Y 57 [.slice none 0 0, .slice none 0 0, .int .i64 0, .int .i64 0, .int .i64 0, .slice none 0 0, .slice none 0 0, .slice none 0 0, .slice none 0 0]) ∧ w6.heap.size ≤ wy.heap.size)) (by kernel_rfl) (by kernel_rfl) ?startR7 ?stepsR7 ?doneR7
      case startR7 =>
        intro b hb
        refine ⟨fun s => undef, undef, undef, rfl, Lib.hid ⟨?_, ?_, ?_, ?_, ?_, ?_, ?_, ?_⟩, Lib.hid (HB.out.trans <| (show Still w6 w6.drew from ⟨rfl, rfl, rfl, rfl⟩).below _), Lib.hid (⟨0, 0, .slice none 0 0, .slice none 0 0, (fun e => by rw [hb _ (by decide)] at e; cases e), (fun e => by rw [hb _ (by decide)] at e; cases e), (fun e => by rw [hb _ (by decide)] at e; cases e), (fun e => by rw [hb _ (by decide)] at e; cases e), (fun e => by rw [hb _ (by decide)] at e; cases e), HVX6.out.still (show Still w6 w6.drew from ⟨rfl, rfl, rfl, rfl⟩), ⟨_, _, _, rfl⟩, ⟨_, _, _, rfl⟩, exB HG5.out.1 ((show Still w6 w6.drew from ⟨rfl, rfl, rfl, rfl⟩).below _), exB HG7.out.1 ((show Still w6 w6.drew from ⟨rfl, rfl, rfl, rfl⟩).below _), ⟨HPX6.out.still (show Still w6 w6.drew from ⟨rfl, rfl, rfl, rfl⟩), HSX6.out.still (show Still w6 w6.drew from ⟨rfl, rfl, rfl, rfl⟩), HYX6.out.still (show Still w6 w6.drew from ⟨rfl, rfl, rfl, rfl⟩)⟩, Nat.le_refl _⟩)⟩
        all_goals (intro e; first | rfl | (rw [hb _ (by decide)] at e; cases e))
      case stepsR7 =>
        refine ⟨?_, ?_, ?_, ?_, ?_, ?_, ?_, ?_, ?_, ?_, ?_, ?_, trivial⟩
        · rintro b a wy hb hd ⟨z, z40, z44, rfl, HV, HW, HX⟩ K hK
          clear hd
          go_simp
          have V := HV.out
          exact hK _ _ ⟨fun s => if s = 37 then .pointer (some ⟨S1, 0, none⟩) else z s, _, _, rfl, Lib.hid ⟨fun _ => rfl, V.2.1, V.2.2.1, V.2.2.2.1, V.2.2.2.2.1, V.2.2.2.2.2.1, V.2.2.2.2.2.2.1, V.2.2.2.2.2.2.2⟩, HW, HX⟩
        · rintro b a wy hb hd ⟨z, z40, z44, rfl, HV, HW, HX⟩ K hK
          simp [Region.binds] at hd
          have e0 : (z 37) = .pointer (some ⟨S1, 0, none⟩) := (HV.out.1) (by simp [hd])
          clear hd
          obtain ⟨h1, h3, v7, v8, x1, x2, x3, x4, x5, x6, x7, x8, x9, x10, x11, x12⟩ := HX.out
          have q0 := x11.2.1.cellAt (i := 0) rfl
          clear x1 x2 x3 x4 x5 x6 x7 x8 x9 x10 x11 x12
          go_simp
          have V := HV.out
          exact hK _ _ ⟨fun s => if s = 38 then .slice (some ⟨g1, 0, none⟩) n1 d1 else if s = 37 then .pointer (some ⟨S1, 0, none⟩) else z s, _, _, rfl, Lib.hid ⟨fun _ => rfl, fun _ => rfl, V.2.2.1, V.2.2.2.1, V.2.2.2.2.1, V.2.2.2.2.2.1, V.2.2.2.2.2.2.1, V.2.2.2.2.2.2.2⟩, HW, HX⟩
        · rintro b a wy hb hd ⟨z, z40, z44, rfl, HV, HW, HX⟩ K hK
          simp [Region.binds] at hd
          have e1 : (z 38) = .slice (some ⟨g1, 0, none⟩) n1 d1 := (HV.out.2.1) (by simp [hd])
          clear hd
          go_simp
          have V := HV.out
          exact hK _ _ ⟨fun s => if s = 39 then .int .i64 (n1 : Int) else if s = 38 then .slice (some ⟨g1, 0, none⟩) n1 d1 else z s, _, _, rfl, Lib.hid ⟨V.1, fun _ => rfl, fun _ => rfl, V.2.2.2.1, V.2.2.2.2.1, V.2.2.2.2.2.1, V.2.2.2.2.2.2.1, V.2.2.2.2.2.2.2⟩, HW, HX⟩
        · rintro b a wy hb hd ⟨z, z40, z44, rfl, HV, HW, HX⟩ K hK
          simp [Region.binds] at hd
          have e2 : (z 39) = .int .i64 (n1 : Int) := (HV.out.2.2.1) (by simp [hd])
          clear hd
          obtain ⟨h1, h3, v7, v8, x1, x2, x3, x4, x5, x6, x7, x8, x9, x10, x11, x12⟩ := HX.out
          have hmk := run_make_flags wy n1 (Nat.le_trans HP.out.1.2 (by decide))
          have HXX := Lib.hid (And.intro x1 (And.intro x2 (And.intro x4 x5)))
          have HVV := Lib.hid (And.intro x6 (And.intro x7 x8))
          have HGG := Lib.hid (And.intro x9 (And.intro x10 x11))
          have HZZ := Lib.hid x12
          clear x1 x2 x3 x4 x5 x6 x7 x8 x9 x10 x11 x12 HX
          go_simp
          have kz := (Below.refl wy.heap.size wy).alloc (Nat.le_refl _) (.cells (bools (List.replicate n1 false)).toArray 4)
          have R2 := alloc_rowV wy 4 (bools (List.replicate n1 false))
          have V := HV.out
          exact hK _ _ ⟨fun s => if s = 39 then .int .i64 (n1 : Int) else z s, _, _, rfl, Lib.hid ⟨V.1, V.2.1, fun _ => rfl, V.2.2.2.1, V.2.2.2.2.1, V.2.2.2.2.2.1, V.2.2.2.2.2.2.1, V.2.2.2.2.2.2.2⟩, Lib.hid (HW.out.trans (kz.mono HW.out.size)), Lib.hid ⟨wy.heap.size, h3, v7, v8, fun _ => ⟨rfl, HZZ.out, R2⟩, fun e => ⟨(HXX.out.2.1 e).1, (HXX.out.2.1 e).2.1, (HXX.out.2.1 e).2.2.below (HXX.out.2.1 e).2.2.lt kz⟩, fun _ e => Ne.symm (Nat.ne_of_lt (HXX.out.2.1 e).2.2.lt), fun e => absurd (HXX.out.2.2.1 e).1 (by rw [hb]; decide), HXX.out.2.2.2, HVV.out.1.below HVV.out.1.lt kz, HVV.out.2.1, HVV.out.2.2, exB HGG.out.1 kz, exB HGG.out.2.1 kz, ⟨HGG.out.2.2.1.below HGG.out.2.2.1.lt kz, HGG.out.2.2.2.1.below HGG.out.2.2.2.1.lt kz, HGG.out.2.2.2.2.below HGG.out.2.2.2.2.lt kz⟩, Nat.le_trans HZZ.out kz.size⟩⟩
        · rintro b a wy hb hd ⟨z, z40, z44, rfl, HV, HW, HX⟩ K hK
          clear hd
          go_simp
          have V := HV.out
          exact hK _ _ ⟨fun s => if s = 41 then .pointer (some ⟨S1, 1, none⟩) else z s, _, _, rfl, Lib.hid ⟨V.1, V.2.1, V.2.2.1, fun _ => rfl, V.2.2.2.2.1, V.2.2.2.2.2.1, V.2.2.2.2.2.2.1, V.2.2.2.2.2.2.2⟩, HW, HX⟩
        · rintro b a wy hb hd ⟨z, z40, z44, rfl, HV, HW, HX⟩ K hK
          simp [Region.binds] at hd
          have e4 : (z 41) = .pointer (some ⟨S1, 1, none⟩) := (HV.out.2.2.2.1) (by simp [hd])
          clear hd
          obtain ⟨h1, h3, v7, v8, x1, x2, x3, x4, x5, x6, x7, x8, x9, x10, x11, x12⟩ := HX.out
          have q1 := x11.2.1.cellAt (i := 1) rfl
          clear x1 x2 x3 x4 x5 x6 x7 x8 x9 x10 x11 x12
          go_simp
          have V := HV.out
          exact hK _ _ ⟨fun s => if s = 42 then .slice (some ⟨g3, 0, none⟩) n2 d3 else if s = 41 then .pointer (some ⟨S1, 1, none⟩) else z s, _, _, rfl, Lib.hid ⟨V.1, V.2.1, V.2.2.1, fun _ => rfl, fun _ => rfl, V.2.2.2.2.2.1, V.2.2.2.2.2.2.1, V.2.2.2.2.2.2.2⟩, HW, HX⟩
        · rintro b a wy hb hd ⟨z, z40, z44, rfl, HV, HW, HX⟩ K hK
          simp [Region.binds] at hd
          have e5 : (z 42) = .slice (some ⟨g3, 0, none⟩) n2 d3 := (HV.out.2.2.2.2.1) (by simp [hd])
          clear hd
          go_simp
          have V := HV.out
          exact hK _ _ ⟨fun s => if s = 43 then .int .i64 (n2 : Int) else if s = 42 then .slice (some ⟨g3, 0, none⟩) n2 d3 else z s, _, _, rfl, Lib.hid ⟨V.1, V.2.1, V.2.2.1, V.2.2.2.1, fun _ => rfl, fun _ => rfl, V.2.2.2.2.2.2.1, V.2.2.2.2.2.2.2⟩, HW, HX⟩
        · rintro b a wy hb hd ⟨z, z40, z44, rfl, HV, HW, HX⟩ K hK
          simp [Region.binds] at hd
          have e6 : (z 43) = .int .i64 (n2 : Int) := (HV.out.2.2.2.2.2.1) (by simp [hd])
          clear hd
          obtain ⟨h1, h3, v7, v8, x1, x2, x3, x4, x5, x6, x7, x8, x9, x10, x11, x12⟩ := HX.out
          have hmk := run_make_flags wy n2 (Nat.le_trans HP.out.2.2 (by decide))
          have HXX := Lib.hid (And.intro x1 (And.intro x2 (And.intro x4 x5)))
          have HVV := Lib.hid (And.intro x6 (And.intro x7 x8))
          have HGG := Lib.hid (And.intro x9 (And.intro x10 x11))
          have HZZ := Lib.hid x12
          clear x1 x2 x3 x4 x5 x6 x7 x8 x9 x10 x11 x12 HX
          go_simp
          have kz := (Below.refl wy.heap.size wy).alloc (Nat.le_refl _) (.cells (bools (List.replicate n2 false)).toArray 4)
          have R2 := alloc_rowV wy 4 (bools (List.replicate n2 false))
          have V := HV.out
          exact hK _ _ ⟨fun s => if s = 43 then .int .i64 (n2 : Int) else z s, _, _, rfl, Lib.hid ⟨V.1, V.2.1, V.2.2.1, V.2.2.2.1, V.2.2.2.2.1, fun _ => rfl, V.2.2.2.2.2.2.1, V.2.2.2.2.2.2.2⟩, Lib.hid (HW.out.trans (kz.mono HW.out.size)), Lib.hid ⟨h1, wy.heap.size, v7, v8, fun e => ⟨(HXX.out.1 e).1, (HXX.out.1 e).2.1, (HXX.out.1 e).2.2.below (HXX.out.1 e).2.2.lt kz⟩, fun _ => ⟨rfl, HZZ.out, R2⟩, fun e _ => Nat.ne_of_lt (HXX.out.1 e).2.2.lt, HXX.out.2.2.1, fun e => absurd (HXX.out.2.2.2 e).1 (by rw [hb]; decide), HVV.out.1.below HVV.out.1.lt kz, HVV.out.2.1, HVV.out.2.2, exB HGG.out.1 kz, exB HGG.out.2.1 kz, ⟨HGG.out.2.2.1.below HGG.out.2.2.1.lt kz, HGG.out.2.2.2.1.below HGG.out.2.2.2.1.lt kz, HGG.out.2.2.2.2.below HGG.out.2.2.2.2.lt kz⟩, Nat.le_trans HZZ.out kz.size⟩⟩
        · rintro b a wy hb hd ⟨z, z40, z44, rfl, HV, HW, HX⟩ K hK
          clear hd
          go_simp
          have V := HV.out
          exact hK _ _ ⟨fun s => if s = 45 then .pointer (some ⟨Vx, 7, none⟩) else z s, _, _, rfl, Lib.hid ⟨V.1, V.2.1, V.2.2.1, V.2.2.2.1, V.2.2.2.2.1, V.2.2.2.2.2.1, fun _ => rfl, V.2.2.2.2.2.2.2⟩, HW, HX⟩
        · rintro b a wy hb hd ⟨z, z40, z44, rfl, HV, HW, HX⟩ K hK
          simp [Region.binds] at hd
          have e8 : (z 45) = .pointer (some ⟨Vx, 7, none⟩) := (HV.out.2.2.2.2.2.2.1) (by simp [hd])
          have dd3 : b 3 = true := by simp [hd]
          clear hd
          obtain ⟨h1, h3, v7, v8, x1, x2, x3, x4, x5, x6, x7, x8, x9, x10, x11, x12⟩ := HX.out
          obtain ⟨rfl, hge, hr2⟩ := x1 dd3
          obtain ⟨A7, m7, e7, rfl⟩ := x7
          obtain ⟨A8, m8, e8, rfl⟩ := x8
          have qq := x6.cellAt (i := 7) rfl
          have fz := x6.free 7
          have HU := Lib.hid (ButL.set wy Vx 7 (.slice (some ⟨h1, 0, none⟩) n1 n1))
          have HA3 := Lib.hid (x6.set 7 (.slice (some ⟨h1, 0, none⟩) n1 n1))
          have HG := Lib.hid (And.intro (exU x9 HU.out (by simp; exact exNe x9 x6 (by decide))) (exU x10 HU.out (by simp; exact exNe x10 x6 (by decide))))
          have H8 := Lib.hid (And.intro (RowV.butL x11.1 HU.out HVN.out.1) (And.intro (RowV.butL x11.2.1 HU.out HVN.out.2.1) (RowV.butL x11.2.2 HU.out HVN.out.2.2)))
          have HS2 := Lib.hid (And.intro hge (RowV.butL hr2 HU.out (row_ne hr2 x6 (by decide))))
          have HO2 := Lib.hid (fun e : b 7 = true => And.intro (x2 e).1 (And.intro (x2 e).2.1 (RowV.butL (x2 e).2.2 HU.out (row_ne (x2 e).2.2 x6 (by decide)))))
          have HXX := Lib.hid (And.intro x3 (And.intro x4 (And.intro x5 x12)))
          have HDD := Lib.hid dd3
          clear x1 x2 x3 x4 x5 x6 x9 x10 x11 x12 hge hr2 dd3 HX
          go_simp
          have V := HV.out
          exact hK _ _ ⟨fun s => if s = 45 then .pointer (some ⟨Vx, 7, none⟩) else z s, _, _, rfl, Lib.hid ⟨V.1, V.2.1, V.2.2.1, V.2.2.2.1, V.2.2.2.2.1, V.2.2.2.2.2.1, fun _ => rfl, V.2.2.2.2.2.2.2⟩, Lib.hid (HW.out.trans (HU.out.below (B := w.heap.size) (by simp; exact HLV.out) HW.out.size)), Lib.hid ⟨h1, h3, _, .slice A8 m8 e8, fun _ => ⟨rfl, HS2.out⟩, HO2.out, HXX.out.1, fun _ => ⟨HDD.out, rfl⟩, HXX.out.2.2.1, HA3.out, ⟨_, _, _, rfl⟩, ⟨_, _, _, rfl⟩, HG.out.1, HG.out.2, H8.out, Nat.le_trans HXX.out.2.2.2 HU.out.size⟩⟩
        · rintro b a wy hb hd ⟨z, z40, z44, rfl, HV, HW, HX⟩ K hK
          clear hd
          go_simp
          have V := HV.out
          exact hK _ _ ⟨fun s => if s = 46 then .pointer (some ⟨Vx, 8, none⟩) else z s, _, _, rfl, Lib.hid ⟨V.1, V.2.1, V.2.2.1, V.2.2.2.1, V.2.2.2.2.1, V.2.2.2.2.2.1, V.2.2.2.2.2.2.1, fun _ => rfl⟩, HW, HX⟩
        · rintro b a wy hb hd ⟨z, z40, z44, rfl, HV, HW, HX⟩ K hK
          simp [Region.binds] at hd
          have e10 : (z 46) = .pointer (some ⟨Vx, 8, none⟩) := (HV.out.2.2.2.2.2.2.2) (by simp [hd])
          have dd7 : b 7 = true := by simp [hd]
          clear hd
          obtain ⟨h1, h3, v7, v8, x1, x2, x3, x4, x5, x6, x7, x8, x9, x10, x11, x12⟩ := HX.out
          obtain ⟨rfl, hge, hr2⟩ := x2 dd7
          obtain ⟨A7, m7, e7, rfl⟩ := x7
          obtain ⟨A8, m8, e8, rfl⟩ := x8
          have qq := x6.cellAt (i := 8) rfl
          have fz := x6.free 8
          have HU := Lib.hid (ButL.set wy Vx 8 (.slice (some ⟨h3, 0, none⟩) n2 n2))
          have HA3 := Lib.hid (x6.set 8 (.slice (some ⟨h3, 0, none⟩) n2 n2))
          have HG := Lib.hid (And.intro (exU x9 HU.out (by simp; exact exNe x9 x6 (by decide))) (exU x10 HU.out (by simp; exact exNe x10 x6 (by decide))))
          have H8 := Lib.hid (And.intro (RowV.butL x11.1 HU.out HVN.out.1) (And.intro (RowV.butL x11.2.1 HU.out HVN.out.2.1) (RowV.butL x11.2.2 HU.out HVN.out.2.2)))
          have HS2 := Lib.hid (And.intro hge (RowV.butL hr2 HU.out (row_ne hr2 x6 (by decide))))
          have HO2 := Lib.hid (fun e : b 3 = true => And.intro (x1 e).1 (And.intro (x1 e).2.1 (RowV.butL (x1 e).2.2 HU.out (row_ne (x1 e).2.2 x6 (by decide)))))
          have HXX := Lib.hid (And.intro x3 (And.intro x4 (And.intro x5 x12)))
          have HDD := Lib.hid dd7
          clear x1 x2 x3 x4 x5 x6 x9 x10 x11 x12 hge hr2 dd7 HX
          go_simp
          have V := HV.out
          exact hK _ _ ⟨fun s => if s = 46 then .pointer (some ⟨Vx, 8, none⟩) else z s, _, _, rfl, Lib.hid ⟨V.1, V.2.1, V.2.2.1, V.2.2.2.1, V.2.2.2.2.1, V.2.2.2.2.2.1, V.2.2.2.2.2.2.1, fun _ => rfl⟩, Lib.hid (HW.out.trans (HU.out.below (B := w.heap.size) (by simp; exact HLV.out) HW.out.size)), Lib.hid ⟨h1, h3, .slice A7 m7 e7, _, HO2.out, fun _ => ⟨rfl, HS2.out⟩, HXX.out.1, HXX.out.2.1, fun _ => ⟨HDD.out, rfl⟩, HA3.out, ⟨_, _, _, rfl⟩, ⟨_, _, _, rfl⟩, HG.out.1, HG.out.2, H8.out, Nat.le_trans HXX.out.2.2.2 HU.out.size⟩⟩
      case doneR7 =>
        rintro b a w7 hb ⟨z, z40, z44, rfl, HV, HW, HX⟩
        have e0 := (HV.out.1) (hb 0)
        have e1 := (HV.out.2.1) (hb 1)
        have e2 := (HV.out.2.2.1) (hb 2)
        have e4 := (HV.out.2.2.2.1) (hb 4)
        have e5 := (HV.out.2.2.2.2.1) (hb 5)
        have e6 := (HV.out.2.2.2.2.2.1) (hb 6)
        have e8 := (HV.out.2.2.2.2.2.2.1) (hb 8)
        have e10 := (HV.out.2.2.2.2.2.2.2) (hb 10)
        simp only [e0, e1, e2, e4, e5, e6, e8, e10]
        clear HV e0 e1 e2 e4 e5 e6 e8 e10
        obtain ⟨h1, h3, v7, v8, x1, x2, x3, x4, x5, x6, _, _, x9, x10, x11, x12⟩ := HX.out
        obtain ⟨rfl, hg1, hr1⟩ := x1 (hb 3)
        obtain ⟨rfl, hg3, hr3⟩ := x2 (hb 7)
        have hnh := x3 (hb 3) (hb 7)
        obtain ⟨_, rfl⟩ := x4 (hb 9)
        obtain ⟨_, rfl⟩ := x5 (hb 11)
        have HVX7 := Lib.hid x6
        have HYX7 := Lib.hid x11.2.2
        have hwl := HB.out.size
        have HGD := Lib.hid (begin_good HOK.out hyes hroom)
        have HRW := Lib.hid (show RW w7 b1 c1 b2 c2 g5 g7 h1 h3 w.heap.size (begin q l1 l2) from by
          have l1' := HA.out.lt1
          have l2' := HA.out.lt2
          have a5 := HG5.out.2
          have a7 := HG7.out.2
          refine ⟨HA.out.below HW.out, x9, x10, ⟨[], ?_⟩, ⟨[], ?_⟩, ⟨a5, a7, by omega, by omega⟩, ⟨HNE.out, hnh⟩, ⟨by omega, by omega, by omega, by omega⟩, ⟨by omega, by omega, by omega, by omega⟩⟩
          · rw [List.append_nil]
            show RowV w7 h1 _ (bools (List.replicate l1.length false))
            rw [HL.out.2.2.1]
            exact hr1
          · rw [List.append_nil]
            show RowV w7 h3 _ (bools (List.replicate l2.length false))
            rw [HL.out.2.2.2]
            exact hr3)
        have HBB := HW
        clear x1 x2 x3 x4 x5 x6 x9 x10 x11 x12 hg1 hr1 hg3 hr3 hnh hwl hb HX HW HB HG5 HG7 HVX6 HPX6 HSX6 HYX6
        have HYES := Lib.hid hyes
        have HGDD := HGD
        clear hyes hroom
        go_wp2_with fail
        go_loopg [7] ((begin q l1 l2).left + 1) (fun gg s7 wr => ∃ (more : Bool) (k1 e1 : Nat) (z : Wk), s7 = .bool more ∧ gg = (if more = true then z.left + 1 else 0) ∧ Hid (z.Good) ∧ Hid ((begin q l1 l2).Goes z) ∧ Hid (more = false → z.End) ∧ Hid (RowV wr Vx 57 [.slice (some ⟨k1, 0, none⟩) n e1, .slice (some ⟨b2, 0, none⟩) n c2, .int .i64 (z.q.first : Int), .int .i64 (z.q.next : Int), .int .i64 (z.q.asked : Int), .slice (some ⟨g5, 0, none⟩) n1 d5, .slice (some ⟨g7, 0, none⟩) n2 d7, .slice (some ⟨h1, 0, none⟩) n1 n1, .slice (some ⟨h3, 0, none⟩) n2 n2]) ∧ Hid (RowV wr Y 57 [.slice none 0 0, .slice none 0 0, .int .i64 0, .int .i64 0, .int .i64 0, .slice none 0 0, .slice none 0 0, .slice none 0 0, .slice none 0 0]) ∧ Hid (RW wr k1 e1 b2 c2 g5 g7 h1 h3 w.heap.size z) ∧ Hid (Below w.heap.size w wr))
        case atStart => exact ⟨true, b1, c1, begin q l1 l2, rfl, rfl, HGD, Lib.hid (.none _), Lib.hid (fun e => (by cases e)), HVX7, HYX7, HRW, HBB⟩
        case round =>
          clear HVX7 HYX7 HRW HBB HGD
          obtain ⟨more, k1, e1, z, rfl, hgg, HGD, HGO, HEN, HVX, HYX, HRW, HB⟩ := hrel
          have hzl := HGO.out.len
          have HZL := Lib.hid (And.intro (show z.l1.length = n1 from hzl.1.trans HL.out.2.2.1) (show z.l2.length = n2 from hzl.2.trans HL.out.2.2.2))
          have HZN := Lib.hid (show z.q.s.n = n from goes_n HGO.out HGDD.out HN.out)
          clear hzl
          cases more
          · have HEE := Lib.hid (HEN.out rfl)
            go_upto_region 11 with (fail)
            have HSZ := Lib.hid state_size
            go_wp2_with (first
              | (refine wpList_load_row rfl 57 (.tmp 6) rfl Vx rfl _ #[.slice (some ⟨k1, 0, none⟩) n e1, .slice (some ⟨b2, 0, none⟩) n c2, .int .i64 (z.q.first : Int), .int .i64 (z.q.next : Int), .int .i64 (z.q.asked : Int), .slice (some ⟨g5, 0, none⟩) n1 d5, .slice (some ⟨g7, 0, none⟩) n2 d7, .slice (some ⟨h1, 0, none⟩) n1 n1, .slice (some ⟨h3, 0, none⟩) n2 n2] _ _ HVX.out Try.underlying57 rfl HSZ.out ?_)
              | (refine wpList_store_row rfl 57 (.tmp 4) (.tmp 53) rfl Y #[.slice (some ⟨k1, 0, none⟩) n e1, .slice (some ⟨b2, 0, none⟩) n c2, .int .i64 (z.q.first : Int), .int .i64 (z.q.next : Int), .int .i64 (z.q.asked : Int), .slice (some ⟨g5, 0, none⟩) n1 d5, .slice (some ⟨g7, 0, none⟩) n2 d7, .slice (some ⟨h1, 0, none⟩) n1 n1, .slice (some ⟨h3, 0, none⟩) n2 n2] rfl rfl _ _ HYX.out HSZ.out rfl (by simp [Value.oneCell']) ?_)
              | fail)
            have HY8 := Lib.hid (setRow_row [.slice (some ⟨k1, 0, none⟩) n e1, .slice (some ⟨b2, 0, none⟩) n c2, .int .i64 (z.q.first : Int), .int .i64 (z.q.next : Int), .int .i64 (z.q.asked : Int), .slice (some ⟨g5, 0, none⟩) n1 d5, .slice (some ⟨g7, 0, none⟩) n2 d7, .slice (some ⟨h1, 0, none⟩) n1 n1, .slice (some ⟨h3, 0, none⟩) n2 n2] HYX.out)
            have HB8 := Lib.hid (HB.out.trans ((setRow_but wr Y #[.slice (some ⟨k1, 0, none⟩) n e1, .slice (some ⟨b2, 0, none⟩) n c2, .int .i64 (z.q.first : Int), .int .i64 (z.q.next : Int), .int .i64 (z.q.asked : Int), .slice (some ⟨g5, 0, none⟩) n1 d5, .slice (some ⟨g7, 0, none⟩) n2 d7, .slice (some ⟨h1, 0, none⟩) n1 n1, .slice (some ⟨h3, 0, none⟩) n2 n2]).below (B := w.heap.size) (by simp; exact HLO.out.2.2) HB.out.size))
            refine bodyPost_ret (v := .tuple #[.agg #[.slice (some ⟨k1, 0, none⟩) n e1, .slice (some ⟨b2, 0, none⟩) n c2, .int .i64 (z.q.first : Int), .int .i64 (z.q.next : Int), .int .i64 (z.q.asked : Int), .slice (some ⟨g5, 0, none⟩) n1 d5, .slice (some ⟨g7, 0, none⟩) n2 d7, .slice (some ⟨h1, 0, none⟩) n1 n1, .slice (some ⟨h3, 0, none⟩) n2 n2], .int .i64 0]) ?_ rfl (⟨k1, e1, g5, d5, g7, d7, h1, n1, h3, n2, z, rfl, HGO.out.runs (.done HEE.out), HRW.out.row HYX.out (setRow_but wr Y #[.slice (some ⟨k1, 0, none⟩) n e1, .slice (some ⟨b2, 0, none⟩) n c2, .int .i64 (z.q.first : Int), .int .i64 (z.q.next : Int), .int .i64 (z.q.asked : Int), .slice (some ⟨g5, 0, none⟩) n1 d5, .slice (some ⟨g7, 0, none⟩) n2 d7, .slice (some ⟨h1, 0, none⟩) n1 n1, .slice (some ⟨h3, 0, none⟩) n2 n2]) (by decide) (by decide), HB8.out⟩)
            clear HB8
            have r0 := HY8.out.cellAt (i := 0) rfl
            have r1 := HY8.out.cellAt (i := 1) rfl
            have r2 := HY8.out.cellAt (i := 2) rfl
            have r3 := HY8.out.cellAt (i := 3) rfl
            have r4 := HY8.out.cellAt (i := 4) rfl
            have r5 := HY8.out.cellAt (i := 5) rfl
            have r6 := HY8.out.cellAt (i := 6) rfl
            have r7 := HY8.out.cellAt (i := 7) rfl
            have r8 := HY8.out.cellAt (i := 8) rfl
            rw [results_cell_tmp rfl]
            go_simp
          · have HSZ := Lib.hid state_size
            have HGG := Lib.hid hgg
            clear hgg
            go_wp2_with (first
              | (refine wpList_load_row rfl 57 (.tmp 6) rfl Vx rfl _ #[.slice (some ⟨k1, 0, none⟩) n e1, .slice (some ⟨b2, 0, none⟩) n c2, .int .i64 (z.q.first : Int), .int .i64 (z.q.next : Int), .int .i64 (z.q.asked : Int), .slice (some ⟨g5, 0, none⟩) n1 d5, .slice (some ⟨g7, 0, none⟩) n2 d7, .slice (some ⟨h1, 0, none⟩) n1 n1, .slice (some ⟨h3, 0, none⟩) n2 n2] _ _ HVX.out Try.underlying57 rfl HSZ.out ?_)
              | fail)
            refine (rstep_any HRW.out HGD.out HZN.out HZL.out.1 HZL.out.2 HB.out.size).mono ?_
            rintro e w8 ⟨ok, k2, e2, y, rfl, hst, hen, hrw, bz⟩
            have HVX8 := Lib.hid (HVX.out.block (bz.block _ HVX.out.lt (by simp; exact ⟨Ne.symm (exNe HRW.out.r1 HVX.out (by decide)), Ne.symm (exNe HRW.out.r3 HVX.out (by decide)), Ne.symm (exNe HRW.out.t1 HVX.out (by decide)), Ne.symm (exNe HRW.out.t3 HVX.out (by decide))⟩)))
            have HYX8 := Lib.hid (HYX.out.block (bz.block _ HYX.out.lt (by simp; exact ⟨Ne.symm (exNe HRW.out.r1 HYX.out (by decide)), Ne.symm (exNe HRW.out.r3 HYX.out (by decide)), Ne.symm (exNe HRW.out.t1 HYX.out (by decide)), Ne.symm (exNe HRW.out.t3 HYX.out (by decide))⟩)))
            have HB8 := Lib.hid (HB.out.trans (bz.below (B := w.heap.size) (by simp; exact HRW.out.lo) HB.out.size))
            have HRW8 := Lib.hid hrw
            have HST := Lib.hid hst
            have HE8 := Lib.hid hen
            clear hst hen hrw bz HVX HYX HRW HB
            go_wp2_with (first
              | (refine wpList_store_row rfl 57 (.tmp 6) (.tmp 51) rfl Vx #[.slice (some ⟨k2, 0, none⟩) n e2, .slice (some ⟨b2, 0, none⟩) n c2, .int .i64 (y.q.first : Int), .int .i64 (y.q.next : Int), .int .i64 (y.q.asked : Int), .slice (some ⟨g5, 0, none⟩) n1 d5, .slice (some ⟨g7, 0, none⟩) n2 d7, .slice (some ⟨h1, 0, none⟩) n1 n1, .slice (some ⟨h3, 0, none⟩) n2 n2] rfl rfl _ _ HVX8.out HSZ.out rfl (by simp [Value.oneCell']) ?_)
              | fail)
            have HVX9 := Lib.hid (setRow_row [.slice (some ⟨k2, 0, none⟩) n e2, .slice (some ⟨b2, 0, none⟩) n c2, .int .i64 (y.q.first : Int), .int .i64 (y.q.next : Int), .int .i64 (y.q.asked : Int), .slice (some ⟨g5, 0, none⟩) n1 d5, .slice (some ⟨g7, 0, none⟩) n2 d7, .slice (some ⟨h1, 0, none⟩) n1 n1, .slice (some ⟨h3, 0, none⟩) n2 n2] HVX8.out)
            have HYX9 := Lib.hid (RowV.butL HYX8.out (setRow_but w8 Vx #[.slice (some ⟨k2, 0, none⟩) n e2, .slice (some ⟨b2, 0, none⟩) n c2, .int .i64 (y.q.first : Int), .int .i64 (y.q.next : Int), .int .i64 (y.q.asked : Int), .slice (some ⟨g5, 0, none⟩) n1 d5, .slice (some ⟨g7, 0, none⟩) n2 d7, .slice (some ⟨h1, 0, none⟩) n1 n1, .slice (some ⟨h3, 0, none⟩) n2 n2]) HVN.out.2.2)
            have HRW9 := Lib.hid (HRW8.out.row HVX8.out (setRow_but w8 Vx #[.slice (some ⟨k2, 0, none⟩) n e2, .slice (some ⟨b2, 0, none⟩) n c2, .int .i64 (y.q.first : Int), .int .i64 (y.q.next : Int), .int .i64 (y.q.asked : Int), .slice (some ⟨g5, 0, none⟩) n1 d5, .slice (some ⟨g7, 0, none⟩) n2 d7, .slice (some ⟨h1, 0, none⟩) n1 n1, .slice (some ⟨h3, 0, none⟩) n2 n2]) (by decide) (by decide))
            have HB9 := Lib.hid (HB8.out.trans ((setRow_but w8 Vx #[.slice (some ⟨k2, 0, none⟩) n e2, .slice (some ⟨b2, 0, none⟩) n c2, .int .i64 (y.q.first : Int), .int .i64 (y.q.next : Int), .int .i64 (y.q.asked : Int), .slice (some ⟨g5, 0, none⟩) n1 d5, .slice (some ⟨g7, 0, none⟩) n2 d7, .slice (some ⟨h1, 0, none⟩) n1 n1, .slice (some ⟨h3, 0, none⟩) n2 n2]).below (B := w.heap.size) (by simp; exact HLV.out) HB8.out.size))
            have HGD2 : Hid y.Good := Lib.hid (by
              cases ok
              · rw [(HE8.out rfl).2]; exact HGD.out
              · exact HGD.out.step (HST.out rfl))
            have HGO2 : Hid ((begin q l1 l2).Goes y) := Lib.hid (by
              cases ok
              · rw [(HE8.out rfl).2]; exact HGO.out
              · exact .more HGO.out (HST.out rfl))
            have HEN2 : Hid (ok = false → y.End) := Lib.hid (by
              intro e
              rw [(HE8.out e).2]; exact (HE8.out e).1)
            have HM2 : Hid ((if ok = true then y.left + 1 else 0) < z.left + 1) := Lib.hid (by
              cases ok
              · simp
              · have := HGD.out.less (HST.out rfl)
                simp
                omega)
            go_roundg (if ok = true then y.left + 1 else 0)
            case measure =>
              have h9 := HGG.out
              simp at h9
              exact Nat.lt_of_lt_of_eq HM2.out h9.symm
            case rel => exact ⟨ok, k2, e2, y, rfl, rfl, HGD2, HGO2, HEN2, HVX9, HYX9, HRW9, HB9⟩
end Go.Proofs.Ytlemjegngnfanaa.Pl

/- PlaceTells: what both sides have, in memory. -/
namespace Go.Proofs.Ytlemjegngnfanaa.Pl
open Go.RowKit Go.Proofs.Ytlemjegngnfanaa.Oct Go.Proofs.Ytlemjegngnfanaa.Mv Go.Proofs.Ytlemjegngnfanaa.Tl Go.Proofs.Ytlemjegngnfanaa.Pk Go.Maps
set_option linter.unusedVariables false

section
variable {x y : Wk}
theorem Wk.Step.le (h : x.Step y) (hg : x.Good) (k : (∀ m ∈ x.l1, m ≤ 4096) ∧ ∀ m ∈ x.l2, m ≤ 4096) : (∀ m ∈ y.l1, m ≤ 4096) ∧ ∀ m ∈ y.l2, m ≤ 4096 := by
  have hn : x.q.s.n ≤ 4096 := hg.ok.s.hi
  cases h with
  | one i b q' k1 k2 =>
    have hb := k2.lt (hg.may1 k1.ask.1 k1.ask.2.1)
    refine ⟨fun m hm => ?_, k.2⟩
    rcases List.mem_or_eq_of_mem_set (show m ∈ x.l1.set i b from hm) with h1 | h1
    · exact k.1 m h1
    · omega
  | two i b q' k0 k1 k2 =>
    have hb := k2.lt (hg.may2 k1.ask.1 k1.ask.2.1)
    refine ⟨k.1, fun m hm => ?_⟩
    rcases List.mem_or_eq_of_mem_set (show m ∈ x.l2.set i b from hm) with h1 | h1
    · exact k.2 m h1
    · omega
theorem Wk.Runs.all (h : x.Runs y) (hg : x.Good) (k : (∀ m ∈ x.l1, m ≤ 4096) ∧ ∀ m ∈ x.l2, m ≤ 4096) : ((∀ m ∈ y.l1, m ≤ 4096) ∧ ∀ m ∈ y.l2, m ≤ 4096) ∧ y.q.s.n = x.q.s.n ∧ y.l1.length = x.l1.length ∧ y.l2.length = x.l2.length ∧ y.Good := by
  induction h with
  | done _ => exact ⟨k, rfl, rfl, rfl, hg⟩
  | step s r ih =>
    obtain ⟨i1, i2, i3, i4, i5⟩ := ih (hg.step s) (s.le hg k)
    exact ⟨i1, i2.trans (s.nn hg), i3.trans s.len.1, i4.trans s.len.2, i5⟩
end

/-- A sheet in its variable. -/
structure ShP (w : World) (S n1 n2 g1 d1 g3 d3 : Nat) (l1 l2 : List Nat) : Prop where
  row : RowV w S 42 [.slice (some ⟨g1, 0, none⟩) n1 d1, .slice (some ⟨g3, 0, none⟩) n2 d3]
  r1 : ∃ sp, RowV w g1 3 (ints l1 ++ sp)
  r3 : ∃ sp, RowV w g3 3 (ints l2 ++ sp)
section
variable {w w' : World} {S n1 n2 g1 d1 g3 d3 : Nat} {l1 l2 : List Nat}
theorem ShP.below (h : ShP w S n1 n2 g1 d1 g3 d3 l1 l2) (k : Below w.heap.size w w') : ShP w' S n1 n2 g1 d1 g3 d3 l1 l2 := ⟨h.row.below h.row.lt k, exB h.r1 k, exB h.r3 k⟩
theorem ShP.turn {p ta cb mb c : Nat} {q : Q} (h : ShP w S n1 n2 g1 d1 g3 d3 l1 l2) (hp : PAt w p ta cb mb c q) (k : ButL w w' [cb, mb, p]) : ShP w' S n1 n2 g1 d1 g3 d3 l1 l2 := by
  have f := PAt.off hp h.row (by decide) (by decide) (by decide)
  have g : ∀ {g : Nat} {l : List Nat}, (∃ sp, RowV w g 3 (ints l ++ sp)) → ∃ sp, RowV w' g 3 (ints l ++ sp) := by
    rintro g l ⟨sp, hr⟩
    have f6 := PAt.off hp hr (by decide) (by decide) (by decide)
    exact ⟨sp, hr.block (k.block _ hr.lt (by simp; exact ⟨f6.2.2.1, f6.2.2.2, f6.1⟩))⟩
  exact ⟨h.row.block (k.block _ h.row.lt (by simp; exact ⟨f.2.2.1, f.2.2.2, f.1⟩)), g h.r1, g h.r3⟩
theorem ShP.other (h : ShP w S n1 n2 g1 d1 g3 d3 l1 l2) {r : Nat} {T : TypeId} {us : List Value} (hr : RowV w r T us) (t1 : T ≠ 3) (t2 : T ≠ 42) (k : ButL w w' [r]) : ShP w' S n1 n2 g1 d1 g3 d3 l1 l2 :=
  ⟨RowV.butL h.row k (row_ne h.row hr (Ne.symm t2)), exU h.r1 k (by simp; exact exNe h.r1 hr (Ne.symm t1)), exU h.r3 k (by simp; exact exNe h.r3 hr (Ne.symm t1))⟩
end
/-- Both sides, and where pages stand. -/
structure PB (w : World) (p ta cb mb n x S n1 n2 : Nat) (q : Q) (b1 c1 b2 c2 g1 d1 g3 d3 : Nat) (l1 l2 : List Nat) : Prop where
  both : PBoth w p ta cb mb n n x q b1 c1 b2 c2
  sh : ShP w S n1 n2 g1 d1 g3 d3 l1 l2
  len1 : l1.length = n1
  len2 : l2.length = n2
  le : (∀ m ∈ l1, m ≤ 4096) ∧ ∀ m ∈ l2, m ≤ 4096
def PSide (w : World) (p ta cb mb n x S n1 n2 : Nat) : Prop := ∃ q b1 c1 b2 c2 g1 d1 g3 d3 l1 l2, PB w p ta cb mb n x S n1 n2 q b1 c1 b2 c2 g1 d1 g3 d3 l1 l2
theorem PB.below {w w' : World} {p ta cb mb n x S n1 n2 : Nat} {q : Q} {b1 c1 b2 c2 g1 d1 g3 d3 : Nat} {l1 l2 : List Nat} (h : PB w p ta cb mb n x S n1 n2 q b1 c1 b2 c2 g1 d1 g3 d3 l1 l2) (k : Below w.heap.size w w') : PB w' p ta cb mb n x S n1 n2 q b1 c1 b2 c2 g1 d1 g3 d3 l1 l2 := ⟨h.both.below k, h.sh.below k, h.len1, h.len2, h.le⟩
section
variable {w w' : World} {p ta cb mb n x S n1 n2 : Nat} {q : Q} {b1 c1 b2 c2 g1 d1 g3 d3 : Nat} {l1 l2 : List Nat}
theorem PB.lts (h : PB w p ta cb mb n x S n1 n2 q b1 c1 b2 c2 g1 d1 g3 d3 l1 l2) : x < w.heap.size ∧ S < w.heap.size := ⟨h.both.row.lt, h.sh.row.lt⟩
/-- A state in its variable is written. -/
theorem PB.apart9 (h : PB w p ta cb mb n x S n1 n2 q b1 c1 b2 c2 g1 d1 g3 d3 l1 l2) {r : Nat} {A : Option Addr} {m c : Nat} {us : List Value} (hr : RowV w r 57 (.slice A m c :: us)) (k : ButL w w' [r]) : PB w' p ta cb mb n x S n1 n2 q b1 c1 b2 c2 g1 d1 g3 d3 l1 l2 := by
  have f := PAt.off h.both.pat hr (by decide) (by decide) (by decide)
  have ho := RAt.off_row h.both.rat hr
  exact ⟨⟨h.both.pat.blocks (k.block _ h.both.pat.row.lt (by simp; exact Ne.symm f.1)) (k.block _ h.both.pat.tally.row.lt (by simp; exact Ne.symm f.2.1)) (k.block _ h.both.pat.tally.cb_lt (by simp; exact Ne.symm f.2.2.1)) (k.block _ h.both.pat.tally.mp.lt (by simp; exact Ne.symm f.2.2.2)), RAt.butL h.both.rat k ho.1 ho.2, RowV.butL h.both.row k (row_ne h.both.row hr (by decide)), h.both.hn⟩, h.sh.other hr (by decide) (by decide) k, h.len1, h.len2, h.le⟩
end
theorem sets5 (w : World) (x : Nat) (v0 v1 v2 v3 v4 : Value) : ButL w (((((w.setCell ⟨x, 0, none⟩ v0).setCell ⟨x, 1, none⟩ v1).setCell ⟨x, 2, none⟩ v2).setCell ⟨x, 3, none⟩ v3).setCell ⟨x, 4, none⟩ v4) [x] :=
  ((((ButL.set w x 0 v0).trans (ButL.set _ x 1 v1)).trans (ButL.set _ x 2 v2)).trans (ButL.set _ x 3 v3)).trans (ButL.set _ x 4 v4)
theorem sets2 (w : World) (x : Nat) (v0 v1 : Value) : ButL w ((w.setCell ⟨x, 0, none⟩ v0).setCell ⟨x, 1, none⟩ v1) [x] := (ButL.set w x 0 v0).trans (ButL.set _ x 1 v1)
/-- What is told of a Place, by both. -/
structure Res (w : World) (p ta cb mb n n1 n2 k1 e1 b2 c2 t1 f1 t3 f3 u1 i1 u3 i3 h1 j1 h3 j3 T U : Nat) (y : Wk) (v1 v2 : Value) : Prop where
  pat : PAt w p ta cb mb n y.q
  rat : RAt w k1 e1 b2 c2 y.q.s
  r1 : ∃ sp, RowV w t1 3 (ints y.l1 ++ sp)
  r3 : ∃ sp, RowV w t3 3 (ints y.l2 ++ sp)
  s1 : ∃ sp, RowV w u1 3 (ints y.l1 ++ sp)
  s3 : ∃ sp, RowV w u3 3 (ints y.l2 ++ sp)
  z1 : ∃ sp, RowV w h1 4 (bools y.f1 ++ sp)
  z3 : ∃ sp, RowV w h3 4 (bools y.f2 ++ sp)
  v1 : List64 w v1 (doneL y.f1)
  v2 : List64 w v2 (doneL y.f2)
  rowT : RowV w T 42 [.slice (some ⟨t1, 0, none⟩) n1 f1, .slice (some ⟨t3, 0, none⟩) n2 f3]
  rowU : RowV w U 57 [.slice (some ⟨k1, 0, none⟩) n e1, .slice (some ⟨b2, 0, none⟩) n c2, .int .i64 (y.q.first : Int), .int .i64 (y.q.next : Int), .int .i64 (y.q.asked : Int), .slice (some ⟨u1, 0, none⟩) n1 i1, .slice (some ⟨u3, 0, none⟩) n2 i3, .slice (some ⟨h1, 0, none⟩) n1 j1, .slice (some ⟨h3, 0, none⟩) n2 j3]
section
variable {w w' : World} {p ta cb mb n n1 n2 k1 e1 b2 c2 t1 f1 t3 f3 u1 i1 u3 i3 h1 j1 h3 j3 T U : Nat} {y : Wk} {v1 v2 : Value}
theorem Res.below (h : Res w p ta cb mb n n1 n2 k1 e1 b2 c2 t1 f1 t3 f3 u1 i1 u3 i3 h1 j1 h3 j3 T U y v1 v2) (k : Below w.heap.size w w') : Res w' p ta cb mb n n1 n2 k1 e1 b2 c2 t1 f1 t3 f3 u1 i1 u3 i3 h1 j1 h3 j3 T U y v1 v2 :=
  ⟨h.pat.kept k, h.rat.below k, exB h.r1 k, exB h.r3 k, exB h.s1 k, exB h.s3 k, exB h.z1 k, exB h.z3 k, h.v1.still k, h.v2.still k, h.rowT.below h.rowT.lt k, h.rowU.below h.rowU.lt k⟩
/-- What is wanted once all was compared. -/
structure Fin (w : World) (p ta cb mb n n1 n2 k1 e1 b2 c2 t1 t3 : Nat) (y : Wk) : Prop where
  pat : PAt w p ta cb mb n y.q
  rat : RAt w k1 e1 b2 c2 y.q.s
  r1 : ∃ sp, RowV w t1 3 (ints y.l1 ++ sp)
  r3 : ∃ sp, RowV w t3 3 (ints y.l2 ++ sp)
theorem Fin.other (h : Fin w p ta cb mb n n1 n2 k1 e1 b2 c2 t1 t3 y) {r : Nat} {Ty : TypeId} {A : Option Addr} {m c : Nat} {us : List Value} (hr : RowV w r Ty (.slice A m c :: us)) (k : ButL w w' [r]) (x1 : Ty ≠ 85) (x2 : Ty ≠ 80) (x3 : Ty ≠ 22) (x4 : Ty ≠ 3) : Fin w' p ta cb mb n n1 n2 k1 e1 b2 c2 t1 t3 y := by
  have f := PAt.off h.pat hr x1 x2 x3
  have ho := RAt.off_row h.rat hr
  exact ⟨h.pat.blocks (k.block _ h.pat.row.lt (by simp; exact Ne.symm f.1)) (k.block _ h.pat.tally.row.lt (by simp; exact Ne.symm f.2.1)) (k.block _ h.pat.tally.cb_lt (by simp; exact Ne.symm f.2.2.1)) (k.block _ h.pat.tally.mp.lt (by simp; exact Ne.symm f.2.2.2)), RAt.butL h.rat k ho.1 ho.2, exU h.r1 k (by simp; exact exNe h.r1 hr (Ne.symm x4)), exU h.r3 k (by simp; exact exNe h.r3 hr (Ne.symm x4))⟩
theorem Fin.still (h : Fin w p ta cb mb n n1 n2 k1 e1 b2 c2 t1 t3 y) (k : Below w.heap.size w w') : Fin w' p ta cb mb n n1 n2 k1 e1 b2 c2 t1 t3 y := ⟨h.pat.kept k, h.rat.below k, exB h.r1 k, exB h.r3 k⟩
end
theorem told_off9 {w w' w0 : World} {A : Option Addr} {l : List Nat} {r : Nat} {T : TypeId} {B C : Option Addr} {m c m2 c2 : Nat} {us : List Value} (h : ToldV w A (ints l)) (hr : RowV w r T (.slice B m c :: .slice C m2 c2 :: .int .i64 0 :: .int .i64 0 :: .int .i64 0 :: us)) (k : ButL w w' [r]) (h0 : ToldV w0 A (ints l)) (hlt : w0.heap.size ≤ r) : ToldV w' A (ints l) := by
  rcases h with ht | ⟨b, o, rfl, hs⟩
  · exact .inl ht
  · by_cases hl : 0 < (ints l).length
    · rcases h0 with ht | ⟨b0, o0, e, hs0⟩
      · exact .inl ht
      · simp only [Option.some.injEq, Addr.mk.injEq, and_true] at e
        obtain ⟨rfl, rfl⟩ := e
        have := hs0.lt hl
        exact .inr ⟨b, o, rfl, hs.block (k.block b (hs.lt hl) (by simp; omega))⟩
    · exact .inl (List.eq_nil_of_length_eq_zero (by omega))
theorem same_is {w : World} {A1 A2 : Option Addr} {c1 c2 n m : Nat} {l : List Nat} (h1 : ToldV w A1 (ints l)) (h2 : ToldV w A2 (ints l)) (hl : l.length ≤ 4096) (hn : l.length = n) (hm : l.length = m) :
    Calls Try.prog 24 #[.slice A1 n c1, .slice A2 m c2] w fun e w' => e = .returned (.bool true) ∧ Below w.heap.size w w' := by
  subst hn hm
  refine (same_any h1 h2 (by omega) (by omega)).mono ?_
  rintro e w' ⟨rfl, b⟩
  rw [decide_eq_true rfl]
  exact ⟨rfl, b⟩
theorem yes_is {w : World} {bb c n : Nat} {f : List Bool} (h : ∃ sp, RowV w bb 4 (bools f ++ sp)) (hf : f.length ≤ 4096) (hn : f.length = n) :
    Calls Try.prog 25 #[.slice (some ⟨bb, 0, none⟩) n c] w fun e w' => ∃ v, e = .returned v ∧ List64 w' v (doneL f) ∧ Below w.heap.size w w' := by
  subst hn
  obtain ⟨sp, hr⟩ := h
  refine yes_any (fun i hi => ?_) hf
  have := hr.has i (by rw [List.length_append]; omega)
  rw [List.getElem_append_left hi] at this
  exact this
/-- A sheet that is not right is refused. -/
theorem place_bad {w : World} {p ta cb mb c n1 n2 : Nat} {q : Q} (hq : PAt w p ta cb mb c q) {A1 A2 : Option Addr} {c1 c2 : Nat} {l1 l2 : List Nat} (h1 : ToldV w A1 (ints l1)) (h2 : ToldV w A2 (ints l2)) (hle : (∀ m ∈ l1, m ≤ 4096) ∧ ∀ m ∈ l2, m ≤ 4096) (hno : ¬ RightS q.s (toI l1) (toI l2)) (e1 : l1.length = n1) (e2 : l2.length = n2) :
    Calls Try.prog 22 #[.pointer (some ⟨ta, 0, none⟩), .pointer (some ⟨p, 0, none⟩), shv A1 A2 n1 n2 c1 c2] w fun e w' => e = .returned (noV 100) ∧ Below w.heap.size w w' := by
  subst e1 e2
  have := place_sheet hq (c1 := c1) (c2 := c2) (l1 := toI l1) (l2 := toI l2) (by rw [zs_toI]; exact h1) (by rw [zs_toI]; exact h2) (R64.toI fun m hm => by have := hle.1 m hm; omega) (R64.toI fun m hm => by have := hle.2 m hm; omega) hno
  rw [length_toI, length_toI] at this
  exact this
theorem place_few {w : World} {p ta cb mb c n1 n2 : Nat} {q : Q} (hq : PAt w p ta cb mb c q) {A1 A2 : Option Addr} {c1 c2 : Nat} {l1 l2 : List Nat} (h1 : ToldV w A1 (ints l1)) (h2 : ToldV w A2 (ints l2)) (hle : (∀ m ∈ l1, m ≤ 4096) ∧ ∀ m ∈ l2, m ≤ 4096) (hyes : RightS q.s (toI l1) (toI l2)) (hroom : q.room < need q.s.n) (e1 : l1.length = n1) (e2 : l2.length = n2) :
    Calls Try.prog 22 #[.pointer (some ⟨ta, 0, none⟩), .pointer (some ⟨p, 0, none⟩), shv A1 A2 n1 n2 c1 c2] w fun e w' => e = .returned (noV 90) ∧ Below w.heap.size w w' := by
  subst e1 e2
  have := place_space hq (c1 := c1) (c2 := c2) (l1 := toI l1) (l2 := toI l2) (by rw [zs_toI]; exact h1) (by rw [zs_toI]; exact h2) (R64.toI fun m hm => by have := hle.1 m hm; omega) (R64.toI fun m hm => by have := hle.2 m hm; omega) hyes hroom
  rw [length_toI, length_toI] at this
  exact this
theorem place_ok {w : World} {p ta cb mb c n1 n2 : Nat} {q : Q} (hq : PAt w p ta cb mb c q) {A1 A2 : Option Addr} {c1 c2 : Nat} {l1 l2 : List Nat} (h1 : ToldV w A1 (ints l1)) (h2 : ToldV w A2 (ints l2)) (hyes : RightS q.s (toI l1) (toI l2)) (hroom : need q.s.n ≤ q.room) (e1 : l1.length = n1) (e2 : l2.length = n2) :
    Calls Try.prog 22 #[.pointer (some ⟨ta, 0, none⟩), .pointer (some ⟨p, 0, none⟩), shv A1 A2 n1 n2 c1 c2] w fun e w' => ∃ (y : Wk) (g1 d1 g3 d3 : Nat) (v1 v2 : Value), e = .returned (.tuple #[.agg #[.slice (some ⟨g1, 0, none⟩) n1 d1, .slice (some ⟨g3, 0, none⟩) n2 d3], v1, v2, .int .i64 0]) ∧ (begin q l1 l2).Runs y ∧ PAt w' p ta cb mb c y.q ∧ (∃ sp, RowV w' g1 3 (ints y.l1 ++ sp)) ∧ (∃ sp, RowV w' g3 3 (ints y.l2 ++ sp)) ∧ List64 w' v1 (doneL y.f1) ∧ List64 w' v2 (doneL y.f2) ∧ w.heap.size ≤ g1 ∧ w.heap.size ≤ g3 ∧ ButL w w' [cb, mb, p] := by
  subst e1 e2
  exact place_yes hq h1 h2 hyes hroom
end Go.Proofs.Ytlemjegngnfanaa.Pl

/- PlaceTells: the walk. (Written by bin/gen_plri.py.) -/
namespace Go.Proofs.Ytlemjegngnfanaa.Pl
open Go.RowKit Go.Proofs.Ytlemjegngnfanaa.Oct Go.Proofs.Ytlemjegngnfanaa.Mv Go.Proofs.Ytlemjegngnfanaa.Tl Go.Proofs.Ytlemjegngnfanaa.Pk Go.Maps
set_option linter.unusedVariables false

theorem has_ex {w : World} {g : Nat} {T : TypeId} {l : List Nat} (h : ∃ sp, RowV w g T (ints l ++ sp)) : HasV w g 0 (ints l) := by
  obtain ⟨sp, h1⟩ := h
  intro i hi
  have := h1.has i (by rw [List.length_append]; omega)
  rw [List.getElem_append_left hi] at this
  exact this
theorem list_is {w : World} {A : Option Addr} {n c : Nat} {l : List Nat} (h : List64 w (.slice A n c) l) : ToldV w A (ints l) := by
  obtain ⟨A2, c2, e, k⟩ := h
  simp only [Value.slice.injEq] at e
  obtain ⟨rfl, rfl, rfl⟩ := e
  exact k
theorem done_len (f : List Bool) : (doneL f).length ≤ f.length := done_le f f.length
theorem u16_at {n : Int} (h : (Lit.int .u16 n).wf = true) : ∃ c : UInt16, n = (c.toNat : Int) := by
  have h2 : IntKind.u16.min ≤ n ∧ n ≤ IntKind.u16.max := by simpa [Lit.wf] using h
  have h0 : IntKind.u16.min = 0 := rfl
  have h1 : IntKind.u16.max = 65535 := rfl
  rw [h0, h1] at h2
  refine ⟨UInt16.ofNat n.toNat, ?_⟩
  simp only [UInt16.toNat_ofNat']
  omega
set_option maxRecDepth 100000 in
set_option maxHeartbeats 32000000 in
theorem tells_walk (a0 : Int) (A : Option Addr) (len cap : Nat) (l : List Opr) (w : World) (h0 : (Lit.int .u16 a0).wf = true) (ho : OpsIn w A len cap l) :
    Calls Try.prog 3 #[.int .u16 a0, .slice A len cap] w fun e w' => e = .returned (.bool true) ∧ Below w.heap.size w w' := by
  obtain ⟨x0, rfl⟩ := u16_at h0
  clear h0
  obtain ⟨m, hm⟩ : ∃ m : Nat, m = min len 30 := ⟨_, rfl⟩
  have hmin : min (len : Int) 30 = (m : Int) := by omega
  have hml : m ≤ len := by omega
  have hm30 : m ≤ 30 := by omega
  have hle := ho.le
  have hcap := ho.cap
  unfold maxLen at hcap
  have HO := Lib.hid ho
  clear hm ho
  obtain ⟨n, hn⟩ : ∃ n, n = size16 x0 := ⟨_, rfl⟩
  have hsz := size_ok x0
  have he : (16 : Int) + ((x0.toNat % 385 : Nat) : Int) = (n : Int) := by rw [hn]; unfold size16; omega
  rw [← hn] at hsz
  obtain ⟨hn1, hn2⟩ := hsz
  have hb := u16_lt x0
  have hmod : (x0.toNat : Int).tmod 385 = ((x0.toNat % 385 : Nat) : Int) := by rw [Int.tmod_eq_emod_of_nonneg (by omega)]; rfl
  have hmod2 : (x0.toNat : Int) % 385 = ((x0.toNat % 385 : Nat) : Int) := rfl
  generalize x0.toNat % 385 = mm at *
  generalize x0.toNat = bn at *
  clear hn
  have hz := sheet_zero
  have hzt := zero_rtally
  have hzp := zero_rpick
  go_enter Try.func3, Try.ntmps3
  go_wp2_with fail
  refine (new_yes n (by omega) (by omega) _).mono ?_
  rintro e w0 ⟨ta, cb, mb, rfl, hf⟩
  have HA0 := Lib.hid hf.at'
  have HB0 := Lib.hid hf.below
  have HC := Lib.hid hf.hc
  have HM := Lib.hid hf.hm
  clear hf he hmod hmod2
  go_wp2_with fail
  refine (pnew_yes HA0.out 2 (by rw [n_new]; omega)).mono ?_
  rintro e w1 ⟨p, rfl, hf⟩
  have HP1 := Lib.hid hf.at'
  have HB1 := Lib.hid (HB0.out.trans (hf.below.mono HB0.out.size))
  have HQ := Lib.hid (Nat.le_trans HB0.out.size hf.hp)
  clear hf HA0 HB0
  go_wp2_with fail
  refine (rnew_yes n (by omega) (by omega) w1).mono ?_
  rintro e w2 ⟨ia, ja, ib, jb, rfl, hr, bz⟩
  unfold rval
  have HP2 := Lib.hid (HP1.out.kept bz)
  have HR2 := Lib.hid hr
  have HB2 := Lib.hid (HB1.out.trans (bz.mono HB1.out.size))
  clear hr bz HP1 HB1
  go_upto_region 5 with (fail)
  have B3 := box_below w2 (.cells #[.slice (some ⟨ia, 0, none⟩) n ja, .slice (some ⟨ib, 0, none⟩) n jb] 33)
  have HP3 := Lib.hid (HP2.out.kept B3)
  have HR3 := Lib.hid (HR2.out.below B3)
  have HB3 := Lib.hid (HB2.out.trans (B3.mono HB2.out.size))
  have HW3 := Lib.hid (show RowV (w2.alloc (.cells #[.slice (some ⟨ia, 0, none⟩) n ja, .slice (some ⟨ib, 0, none⟩) n jb] 33)) w2.heap.size 33 [.slice (some ⟨ia, 0, none⟩) n ja, .slice (some ⟨ib, 0, none⟩) n jb] from alloc_rowV w2 33 [.slice (some ⟨ia, 0, none⟩) n ja, .slice (some ⟨ib, 0, none⟩) n jb])
  clear B3 HP2 HR2 HB2 hzt
  generalize w2.alloc (.cells #[.slice (some ⟨ia, 0, none⟩) n ja, .slice (some ⟨ib, 0, none⟩) n jb] 33) = w3 at *
  have HNW := Lib.hid (show Calls Try.prog 11 #[.agg #[.slice (some ⟨ia, 0, none⟩) n ja, .slice (some ⟨ib, 0, none⟩) n jb], .int .i64 2] w3 (fun e w' => e = .returned (.tuple #[.agg #[.slice (some ⟨ia, 0, none⟩) n ja, .slice (some ⟨ib, 0, none⟩) n jb, .int .i64 2, .int .i64 2, .int .i64 0], .int .i64 0]) ∧ Below w3.heap.size w3 w') from by
    have := rpnew_yes HR3.out 2 (by rw [n_new]; omega)
    unfold rpv at this
    rw [show (Q.mk (St.new n) 2 2 0).s.n = n from n_new n] at this
    exact this)
  have d0 := HW3.out.cellAt (i := 0) rfl
  have d1 := HW3.out.cellAt (i := 1) rfl
  go_wp2_with fail
  refine HNW.out.mono ?_
  rintro e w4 ⟨rfl, bz⟩
  have HP4 := Lib.hid (HP3.out.kept bz)
  have HR4 := Lib.hid (HR3.out.below bz)
  have HB4 := Lib.hid (HB3.out.trans (bz.mono HB3.out.size))
  clear bz d0 d1 HP3 HR3 HB3 HW3 HNW
  go_upto_region 6 with (fail)
  have B5 := box_below w4 (.cells #[.slice (some ⟨ia, 0, none⟩) n ja, .slice (some ⟨ib, 0, none⟩) n jb, .int .i64 2, .int .i64 2, .int .i64 0] 37)
  have R5 := alloc_rowV w4 37 (rrow n ⟨St.new n, 2, 2, 0⟩ ia ja ib jb)
  obtain ⟨x, hx⟩ : ∃ x, x = w4.heap.size := ⟨_, rfl⟩
  have HS5 := Lib.hid (show PBoth (w4.alloc (.cells #[.slice (some ⟨ia, 0, none⟩) n ja, .slice (some ⟨ib, 0, none⟩) n jb, .int .i64 2, .int .i64 2, .int .i64 0] 37)) p ta cb mb n n x (q0 n) ia ja ib jb from ⟨HP4.out.kept B5, HR4.out.below B5, (by rw [hx]; exact R5), n_new n⟩)
  have HB5 := Lib.hid (HB4.out.trans (B5.mono HB4.out.size))
  have HXW := Lib.hid (show w.heap.size ≤ x by rw [hx]; exact HB4.out.size)
  rw [← hx]
  clear B5 R5 hx HP4 HR4 HB4 hzp
  generalize w4.alloc (.cells #[.slice (some ⟨ia, 0, none⟩) n ja, .slice (some ⟨ib, 0, none⟩) n jb, .int .i64 2, .int .i64 2, .int .i64 0] 37) = w5 at *
  have hnn : -(n : Int) < 1 := by omega
  have hbn : ((need n : Int) != (need n : Int)) = false := by simp
  go_wp2_with fail
  refine (need_eq n (by omega) _).mono ?_
  rintro e w' ⟨rfl, rfl⟩
  go_wp2_with fail
  refine (rneed_eq n (by omega) (by omega) _).mono ?_
  rintro e w' ⟨rfl, rfl⟩
  go_wp2_with fail
  refine (need_neg (-(n : Int)) (by omega) hnn _).mono ?_
  rintro e w' ⟨rfl, rfl⟩
  go_wp2_with fail
  refine (empty_any n (by omega) _).mono ?_
  rintro e w6 ⟨ga, gc, rfl, hr1, hr3, hga, hgc, bz⟩
  have HZ1 := Lib.hid hr1
  have HZ3 := Lib.hid hr3
  have HS6 := Lib.hid (HS5.out.below bz)
  have HB6 := Lib.hid (HB5.out.trans (bz.mono HB5.out.size))
  clear hr1 hr3 hga hgc bz HS5 HB5 hnn hbn
  go_upto_region 9 with (fail)
  have B7 := box_below w6 (.cells #[.slice (some ⟨ga, 0, none⟩) (pg n) (pg n), .slice (some ⟨gc, 0, none⟩) (pg (pg n)) (pg (pg n))] 42)
  obtain ⟨S, hS⟩ : ∃ S, S = w6.heap.size := ⟨_, rfl⟩
  have HPS := Lib.hid (show PSide (w6.alloc (.cells #[.slice (some ⟨ga, 0, none⟩) (pg n) (pg n), .slice (some ⟨gc, 0, none⟩) (pg (pg n)) (pg (pg n))] 42)) p ta cb mb n x S (pg n) (pg (pg n)) from ⟨_, _, _, _, _, ga, _, gc, _, zeros (pg n), zeros (pg (pg n)), HS6.out.below B7, ⟨by rw [hS]; exact alloc_rowV w6 42 [.slice (some ⟨ga, 0, none⟩) (pg n) (pg n), .slice (some ⟨gc, 0, none⟩) (pg (pg n)) (pg (pg n))], ⟨[], by rw [List.append_nil]; exact HZ1.out.below HZ1.out.lt B7⟩, ⟨[], by rw [List.append_nil]; exact HZ3.out.below HZ3.out.lt B7⟩⟩, by simp [zeros], by simp [zeros], fun m hm => by simp [zeros] at hm; omega, fun m hm => by simp [zeros] at hm; omega⟩)
  have HB7 := Lib.hid (HB6.out.trans (B7.mono HB6.out.size))
  have HSW := Lib.hid (show w.heap.size ≤ S by rw [hS]; exact HB6.out.size)
  rw [← hS]
  clear B7 hS HS6 HB6 HZ1 HZ3
  generalize w6.alloc (.cells #[.slice (some ⟨ga, 0, none⟩) (pg n) (pg n), .slice (some ⟨gc, 0, none⟩) (pg (pg n)) (pg (pg n))] 42) = w7 at *
  obtain ⟨n1, hn1'⟩ : ∃ n1, n1 = pg n := ⟨_, rfl⟩
  obtain ⟨n2, hn2'⟩ : ∃ n2, n2 = pg (pg n) := ⟨_, rfl⟩
  rw [← hn2', ← hn1'] at HPS
  have HNN := Lib.hid (And.intro hn1' hn2')
  have hn1b : n1 ≤ 100 := by rw [hn1']; unfold pg; omega
  have hn2b : n2 ≤ 100 := by
    have : pg n ≤ 100 := by rw [← hn1']; exact hn1b
    rw [hn2']; generalize pg n = z at *; unfold pg; omega
  clear hn1' hn2'
  go_wp2_with fail
  go_loopw [75] (fun c wr => ∃ k : Nat, k ≤ m ∧ c = .int .i64 (k : Int) ∧ Hid (PSide wr p ta cb mb n x S n1 n2) ∧ Hid (Below w.heap.size w wr)) (fun c _ => m - (Go.RowKit.intOf c).toNat)
  case atStart => exact ⟨0, by omega, rfl, HPS, HB7⟩
  case round =>
    clear HPS HB7
    obtain ⟨k, hk, rfl, HS, HB⟩ := hrel
    by_cases hlt : k < m
    · have hki : (k : Int) < (m : Int) := by omega
      have hge : (0 : Int) ≤ (k : Int) := by omega
      obtain ⟨ob, o, y, rfl, hyk, hlies, hwf⟩ := HO.out.at (k := k) (by omega)
      have hl2 := hlies.below HB.out
      have d0 := hl2.c0
      have d1 := hl2.c1
      clear hlies hl2 hwf hyk
      go_upto_block 2 with (fail)
      have B1 := box_below wr (.cells #[.int .u8 (y.what.toNat : Int), .int .i64 y.b] 45)
      have R1 := alloc_rowV wr 45 [.int .u8 (y.what.toNat : Int), .int .i64 y.b]
      obtain ⟨q, b1, c1, b2, c2, g1, d1, g3, d3, l1, l2, hpb⟩ := HS.out
      have HP1 := Lib.hid (hpb.below B1)
      have HB1 := Lib.hid (HB.out.trans (B1.mono HB.out.size))
      have HRN := Lib.hid (show wr.heap.size ≠ cb ∧ wr.heap.size ≠ mb ∧ wr.heap.size ≠ p from by have := hpb.both.pat.tally.lts; have := hpb.both.pat.row.lt; omega)
      clear d0 B1 hpb HS HB
      generalize wr.alloc (.cells #[.int .u8 (y.what.toNat : Int), .int .i64 y.b] 45) = w6 at *
      obtain ⟨ro, hro⟩ : ∃ ro, ro = wr.heap.size := ⟨_, rfl⟩
      rw [← hro] at R1 HRN ⊢
      have HR1 := Lib.hid R1
      clear hro R1
      go_cut [17, 18, 19, 20, 21, 22, 81] (fun _ _ _ _ _ _ _ wx => Hid (PSide wx p ta cb mb n x S n1 n2) ∧ Hid (Below w.heap.size w wx))
      case first => as_aux_lemma =>
        have o0 := HR1.out.cellAt (i := 0) rfl
        have o1 := HR1.out.cellAt (i := 1) rfl
        have hq7 := u8_lt y.what
        rcases (show y.what.toNat % 5 = 0 ∨ y.what.toNat % 5 = 1 ∨ y.what.toNat % 5 = 2 ∨ y.what.toNat % 5 = 3 ∨ y.what.toNat % 5 = 4 by omega) with hm7 | hm7 | hm7 | hm7 | hm7
        · have hmI : (y.what.toNat : Int) % 5 = 0 := by omega
          clear hm7
          go_wp2_with fail
          refine (take_both HP1.out.both).mono ?_
          rintro e w7 ⟨b, r, q', rfl, az, hqn, bz, hrt⟩
          obtain ⟨hra, hrw⟩ := HP1.out.both.turn bz
          have HSH := Lib.hid (HP1.out.sh.turn HP1.out.both.pat (ButL.of_but3 bz))
          have HA7 := Lib.hid az
          have HR7 := Lib.hid hra
          have HW7 := Lib.hid hrw
          have HB7 := Lib.hid (HB1.out.trans (bz.below HC.out HM.out HQ.out HB1.out.size))
          have HRT := Lib.hid hrt
          have HN7 := Lib.hid hqn
          have HPL := Lib.hid (And.intro HP1.out.len1 (And.intro HP1.out.len2 HP1.out.le))
          clear az hra hrw hqn bz hrt o0 o1 HP1 HB1
          have t0 := HW7.out.cellAt (i := 0) rfl
          have t1 := HW7.out.cellAt (i := 1) rfl
          have t2 := HW7.out.cellAt (i := 2) rfl
          have t3 := HW7.out.cellAt (i := 3) rfl
          have t4 := HW7.out.cellAt (i := 4) rfl
          go_wp2_with fail
          refine (HRT.out _ HR7.out).mono ?_
          rintro e w8 ⟨k1, e1, rfl, hr, bz⟩
          have HA8 := Lib.hid (HA7.out.kept bz)
          have HR8 := Lib.hid hr
          have HW8 := Lib.hid (HW7.out.below HW7.out.lt bz)
          have HSH8 := Lib.hid (HSH.out.below bz)
          have HB8 := Lib.hid (HB7.out.trans (bz.mono HB7.out.size))
          clear t0 t1 t2 t3 t4 hr bz HA7 HR7 HW7 HB7 HRT HSH
          have t0 := HW8.out.cellAt (i := 0) rfl
          have t1 := HW8.out.cellAt (i := 1) rfl
          have t2 := HW8.out.cellAt (i := 2) rfl
          have t3 := HW8.out.cellAt (i := 3) rfl
          have t4 := HW8.out.cellAt (i := 4) rfl
          have f0 := HW8.out.free 0
          have f1 := HW8.out.free 1
          have f2 := HW8.out.free 2
          have f3 := HW8.out.free 3
          have f4 := HW8.out.free 4
          go_wp2_with fail
          go_meet
          exact ⟨Lib.hid ⟨_, _, _, _, _, _, _, _, _, _, _, PBoth.next5 HA8.out HR8.out HW8.out HN7.out, HSH8.out.other HW8.out (by decide) (by decide) (sets5 _ _ _ _ _ _ _), HPL.out.1, HPL.out.2.1, HPL.out.2.2⟩, Lib.hid (HB8.out.trans ((sets5 w8 x _ _ _ _ _).below (B := w.heap.size) (by simp; exact HXW.out) HB8.out.size))⟩
        · have hmI : (y.what.toNat : Int) % 5 = 1 := by omega
          clear hm7
          go_wp2_with fail
          refine (up_at HP1.out.both.pat.tally y.b).mono ?_
          rintro e w7 ⟨rfl, az, bz⟩
          obtain ⟨hra, hrw⟩ := HP1.out.both.turn2 bz
          have HSN := Lib.hid (show (q.s.up y.b).2.n = n by rw [n_up]; exact HP1.out.both.hn)
          have HSH := Lib.hid (HP1.out.sh.turn HP1.out.both.pat (ButL.of_but3 (But3.of_but p bz)))
          have HA7 := Lib.hid (HP1.out.both.pat.turned az bz (by rw [n_up]))
          have HR7 := Lib.hid hra
          have HW7 := Lib.hid hrw
          have HB7 := Lib.hid (HB1.out.trans (bz.below HC.out HM.out HB1.out.size))
          have HO7 := Lib.hid (row_but HR1.out bz HRN.out.1 HRN.out.2.1)
          have HH := Lib.hid HP1.out.both.hn
          have HPL := Lib.hid (And.intro HP1.out.len1 (And.intro HP1.out.len2 HP1.out.le))
          clear az hra hrw bz o0 o1 HP1 HB1
          have o1 := HO7.out.cellAt (i := 1) rfl
          have t0 := HW7.out.cellAt (i := 0) rfl
          have t1 := HW7.out.cellAt (i := 1) rfl
          go_wp2_with fail
          refine (radd_up' HR7.out HH.out y.b).mono ?_
          rintro e w8 ⟨k1, e1, rfl, hr, bz⟩
          have HA8 := Lib.hid (HA7.out.kept bz)
          have HR8 := Lib.hid hr
          have HW8 := Lib.hid (HW7.out.below HW7.out.lt bz)
          have HSH8 := Lib.hid (HSH.out.below bz)
          have HB8 := Lib.hid (HB7.out.trans (bz.mono HB7.out.size))
          clear t0 t1 o1 hr bz HA7 HR7 HW7 HB7 HO7 HSH
          have t0 := HW8.out.cellAt (i := 0) rfl
          have t1 := HW8.out.cellAt (i := 1) rfl
          have f0 := HW8.out.free 0
          have f1 := HW8.out.free 1
          go_wp2_with fail
          go_meet
          exact ⟨Lib.hid ⟨_, _, _, _, _, _, _, _, _, _, _, PBoth.next2 HA8.out HR8.out HW8.out HSN.out, HSH8.out.other HW8.out (by decide) (by decide) (sets2 _ _ _ _), HPL.out.1, HPL.out.2.1, HPL.out.2.2⟩, Lib.hid (HB8.out.trans ((sets2 w8 x _ _).below (B := w.heap.size) (by simp; exact HXW.out) HB8.out.size))⟩
        · have hmI : (y.what.toNat : Int) % 5 = 2 := by omega
          clear hm7
          go_wp2_with fail
          refine (down_at HP1.out.both.pat.tally y.b).mono ?_
          rintro e w7 ⟨rfl, az, bz⟩
          obtain ⟨hra, hrw⟩ := HP1.out.both.turn2 bz
          have HSN := Lib.hid (show (q.s.down y.b).2.n = n by rw [n_down]; exact HP1.out.both.hn)
          have HSH := Lib.hid (HP1.out.sh.turn HP1.out.both.pat (ButL.of_but3 (But3.of_but p bz)))
          have HA7 := Lib.hid (HP1.out.both.pat.turned az bz (by rw [n_down]))
          have HR7 := Lib.hid hra
          have HW7 := Lib.hid hrw
          have HB7 := Lib.hid (HB1.out.trans (bz.below HC.out HM.out HB1.out.size))
          have HO7 := Lib.hid (row_but HR1.out bz HRN.out.1 HRN.out.2.1)
          have HH := Lib.hid HP1.out.both.hn
          have HPL := Lib.hid (And.intro HP1.out.len1 (And.intro HP1.out.len2 HP1.out.le))
          clear az hra hrw bz o0 o1 HP1 HB1
          have o1 := HO7.out.cellAt (i := 1) rfl
          have t0 := HW7.out.cellAt (i := 0) rfl
          have t1 := HW7.out.cellAt (i := 1) rfl
          go_wp2_with fail
          refine (radd_down' HR7.out HH.out y.b).mono ?_
          rintro e w8 ⟨k1, e1, rfl, hr, bz⟩
          have HA8 := Lib.hid (HA7.out.kept bz)
          have HR8 := Lib.hid hr
          have HW8 := Lib.hid (HW7.out.below HW7.out.lt bz)
          have HSH8 := Lib.hid (HSH.out.below bz)
          have HB8 := Lib.hid (HB7.out.trans (bz.mono HB7.out.size))
          clear t0 t1 o1 hr bz HA7 HR7 HW7 HB7 HO7 HSH
          have t0 := HW8.out.cellAt (i := 0) rfl
          have t1 := HW8.out.cellAt (i := 1) rfl
          have f0 := HW8.out.free 0
          have f1 := HW8.out.free 1
          go_wp2_with fail
          go_meet
          exact ⟨Lib.hid ⟨_, _, _, _, _, _, _, _, _, _, _, PBoth.next2 HA8.out HR8.out HW8.out HSN.out, HSH8.out.other HW8.out (by decide) (by decide) (sets2 _ _ _ _), HPL.out.1, HPL.out.2.1, HPL.out.2.2⟩, Lib.hid (HB8.out.trans ((sets2 w8 x _ _).below (B := w.heap.size) (by simp; exact HXW.out) HB8.out.size))⟩
        · have hmI : (y.what.toNat : Int) % 5 = 3 := by omega
          clear hm7
          go_wp2_with fail
          refine (keep_at HP1.out.both.pat.tally).mono ?_
          rintro e w7 ⟨rfl, az, bz⟩
          obtain ⟨hra, hrw⟩ := HP1.out.both.turn2 bz
          have HSN := Lib.hid (show q.s.keep.n = n from (show q.s.keep.n = q.s.n from rfl).trans HP1.out.both.hn)
          have HSH := Lib.hid (HP1.out.sh.turn HP1.out.both.pat (ButL.of_but3 (But3.of_but p bz)))
          have HA7 := Lib.hid (HP1.out.both.pat.turned az bz (show q.s.keep.n = q.s.n from rfl))
          have HR7 := Lib.hid hra
          have HW7 := Lib.hid hrw
          have HB7 := Lib.hid (HB1.out.trans (bz.below HC.out HM.out HB1.out.size))
          have HH := Lib.hid HP1.out.both.hn
          have HPL := Lib.hid (And.intro HP1.out.len1 (And.intro HP1.out.len2 HP1.out.le))
          clear az hra hrw bz o0 o1 HP1 HB1
          dsimp only
          have t0 := HW7.out.cellAt (i := 0) rfl
          have t1 := HW7.out.cellAt (i := 1) rfl
          go_wp2_with fail
          refine (rkeep' HR7.out HH.out).mono ?_
          rintro e w8 ⟨rfl, hr, bz⟩
          have HA8 := Lib.hid (HA7.out.kept bz)
          have HR8 := Lib.hid hr
          have HW8 := Lib.hid (HW7.out.below HW7.out.lt bz)
          have HSH8 := Lib.hid (HSH.out.below bz)
          have HB8 := Lib.hid (HB7.out.trans (bz.mono HB7.out.size))
          clear t0 t1 hr bz HA7 HR7 HW7 HB7 HSH
          have t0 := HW8.out.cellAt (i := 0) rfl
          have t1 := HW8.out.cellAt (i := 1) rfl
          have f0 := HW8.out.free 0
          have f1 := HW8.out.free 1
          go_wp2_with fail
          go_meet
          exact ⟨Lib.hid ⟨_, _, _, _, _, _, _, _, _, _, _, PBoth.next2 HA8.out HR8.out HW8.out HSN.out, HSH8.out.other HW8.out (by decide) (by decide) (sets2 _ _ _ _), HPL.out.1, HPL.out.2.1, HPL.out.2.2⟩, Lib.hid (HB8.out.trans ((sets2 w8 x _ _).below (B := w.heap.size) (by simp; exact HXW.out) HB8.out.size))⟩
        · have hmI : (y.what.toNat : Int) % 5 = 4 := by omega
          clear hm7 o0 o1
          have s0 := HP1.out.sh.row.cellAt (i := 0) rfl
          have s1 := HP1.out.sh.row.cellAt (i := 1) rfl
          by_cases hrt : RightS q.s (toI l1) (toI l2)
          · by_cases hrm : q.room < need q.s.n
            · have HRM := Lib.hid hrm
              have HRT := Lib.hid hrt
              clear hrm hrt
              skip
              go_wp2_with fail
              refine (place_few HP1.out.both.pat (has_told HP1.out.sh.r1) (has_told HP1.out.sh.r3) HP1.out.le HRT.out HRM.out HP1.out.len1 HP1.out.len2).mono ?_
              rintro e w7 ⟨rfl, bz⟩
              unfold noV
              have HP7 := Lib.hid (HP1.out.below bz)
              have HB7 := Lib.hid (HB1.out.trans (bz.mono HB1.out.size))
              clear s0 s1 bz HP1 HB1
              go_upto_region 14 with (fail)
              have B8 := box_below w7 (.cells #[.slice none 0 0, .slice none 0 0] 42)
              have HT8 := Lib.hid (alloc_rowV w7 42 [.slice none 0 0, .slice none 0 0])
              have HP8 := Lib.hid (HP7.out.below B8)
              have HB8 := Lib.hid (HB7.out.trans (B8.mono HB7.out.size))
              clear B8 HP7 HB7
              change Hid (RowV (w7.alloc (.cells #[.slice none 0 0, .slice none 0 0] 42)) _ _ _) at HT8
              generalize w7.alloc (.cells #[.slice none 0 0, .slice none 0 0] 42) = w8 at *
              obtain ⟨T, hT⟩ : ∃ T, T = w7.heap.size := ⟨_, rfl⟩
              rw [← hT] at HT8 ⊢
              clear hT
              have t0 := HP8.out.both.row.cellAt (i := 0) rfl
              have t1 := HP8.out.both.row.cellAt (i := 1) rfl
              have t2 := HP8.out.both.row.cellAt (i := 2) rfl
              have t3 := HP8.out.both.row.cellAt (i := 3) rfl
              have t4 := HP8.out.both.row.cellAt (i := 4) rfl
              have s0 := HP8.out.sh.row.cellAt (i := 0) rfl
              have s1 := HP8.out.sh.row.cellAt (i := 1) rfl
              go_wp2_with fail
              refine (rplace_space HP8.out.both.rat HP8.out.both.pat.ok HP8.out.both.hn (has_ex HP8.out.sh.r1) (has_ex HP8.out.sh.r3) (by rw [HP8.out.len1, HP8.out.both.hn]; exact HNN.out.1) (by rw [HP8.out.len2, HP8.out.both.hn]; exact HNN.out.2) HP8.out.len1 HP8.out.len2 HRT.out HRM.out).mono ?_
              rintro e w9 ⟨rfl, bz⟩
              have HP9 := Lib.hid (HP8.out.below bz)
              have HB9 := Lib.hid (HB8.out.trans (bz.mono HB8.out.size))
              have HT9 := Lib.hid (HT8.out.below HT8.out.lt bz)
              clear t0 t1 t2 t3 t4 s0 s1 bz HP8 HB8 HT8
              have hz9 := state_zero w9
              have Z9 := box_below w9 (.cells #[.slice none 0 0, .slice none 0 0, .int .i64 0, .int .i64 0, .int .i64 0, .slice none 0 0, .slice none 0 0, .slice none 0 0, .slice none 0 0] 57)
              have RV0 := Lib.hid (alloc_rowV w9 57 [.slice none 0 0, .slice none 0 0, .int .i64 0, .int .i64 0, .int .i64 0, .slice none 0 0, .slice none 0 0, .slice none 0 0, .slice none 0 0])
              have HSZ := Lib.hid state_size
              go_upto_region 15 with (first
                | (refine wpList_store_row rfl 57 (.tmp 21) (.tmp 95) rfl w9.heap.size #[.slice (some ⟨b1, 0, none⟩) n c1, .slice (some ⟨b2, 0, none⟩) n c2, .int .i64 (q.first : Int), .int .i64 (q.next : Int), .int .i64 (q.asked : Int), .slice (some ⟨g1, 0, none⟩) n1 d1, .slice (some ⟨g3, 0, none⟩) n2 d3, .slice none 0 0, .slice none 0 0] rfl rfl _ _ RV0.out HSZ.out rfl (by simp [Value.oneCell']) ?_)
                | fail)
              clear hz9
              have HPA := Lib.hid (HP9.out.below Z9)
              have HTA := Lib.hid (HT9.out.below HT9.out.lt Z9)
              have HBA := Lib.hid (HB9.out.trans (Z9.mono HB9.out.size))
              have U9 := setRow_but (w9.alloc (.cells #[.slice none 0 0, .slice none 0 0, .int .i64 0, .int .i64 0, .int .i64 0, .slice none 0 0, .slice none 0 0, .slice none 0 0, .slice none 0 0] 57)) w9.heap.size #[.slice (some ⟨b1, 0, none⟩) n c1, .slice (some ⟨b2, 0, none⟩) n c2, .int .i64 (q.first : Int), .int .i64 (q.next : Int), .int .i64 (q.asked : Int), .slice (some ⟨g1, 0, none⟩) n1 d1, .slice (some ⟨g3, 0, none⟩) n2 d3, .slice none 0 0, .slice none 0 0]
              have hlt9 := HP9.out.lts
              have HPB := Lib.hid (HPA.out.apart9 RV0.out U9)
              have HTB := Lib.hid (RowV.butL HTA.out U9 (by have := HT9.out.lt; omega))
              have HBB := Lib.hid (HBA.out.trans (U9.below (B := w.heap.size) (by simp; exact HB9.out.size) HBA.out.size))
              clear Z9 RV0 HP9 HB9 HT9 HPA HTA HBA U9 hlt9
              generalize (w9.alloc (.cells #[.slice none 0 0, .slice none 0 0, .int .i64 0, .int .i64 0, .int .i64 0, .slice none 0 0, .slice none 0 0, .slice none 0 0, .slice none 0 0] 57)).setRow w9.heap.size #[.slice (some ⟨b1, 0, none⟩) n c1, .slice (some ⟨b2, 0, none⟩) n c2, .int .i64 (q.first : Int), .int .i64 (q.next : Int), .int .i64 (q.asked : Int), .slice (some ⟨g1, 0, none⟩) n1 d1, .slice (some ⟨g3, 0, none⟩) n2 d3, .slice none 0 0, .slice none 0 0] = w10 at *
              have s0 := HTB.out.cellAt (i := 0) rfl
              have s1 := HTB.out.cellAt (i := 1) rfl
              go_wp2_with fail
              go_roundw
              case rel => exact ⟨k + 1, by omega, by go_num, Lib.hid ⟨_, _, _, _, _, _, _, _, _, _, _, HPB.out⟩, HBB⟩
              case measure => simp [Go.RowKit.intOf]; omega
            · skip
              have HRT := Lib.hid hrt
              have HRM := Lib.hid (Nat.le_of_not_lt hrm)
              clear hrm hrt
              go_wp2_with fail
              refine (place_ok HP1.out.both.pat (has_told HP1.out.sh.r1) (has_told HP1.out.sh.r3) HRT.out HRM.out HP1.out.len1 HP1.out.len2).mono ?_
              rintro e w7 ⟨yy, t1, f1, t3, f3, v1, v2, rfl, hruns, hpat, hr1, hr3, hv1, hv2, hg1, hg3, hbut⟩
              have hgood := begin_good HP1.out.both.pat.ok HRT.out HRM.out
              obtain ⟨hle, hyn, hy1, hy2, hyg⟩ := hruns.all hgood HP1.out.le
              have HYL := Lib.hid (And.intro (hy1.trans HP1.out.len1) (And.intro (hy2.trans HP1.out.len2) (And.intro hle (And.intro (hyn.trans HP1.out.both.hn) hyg))))
              obtain ⟨hra, hrw⟩ := HP1.out.both.turn (ButL.to3 hbut)
              have HSH := Lib.hid (HP1.out.sh.turn HP1.out.both.pat hbut)
              have HRA := Lib.hid hra
              have HRW := Lib.hid hrw
              have HPA := Lib.hid hpat
              have HR1 := Lib.hid hr1
              have HR3 := Lib.hid hr3
              have HRU := Lib.hid hruns
              have HB7 := Lib.hid (HB1.out.trans (hbut.below (B := w.heap.size) (by simp; exact ⟨HC.out, HM.out, HQ.out⟩) HB1.out.size))
              have HPQ := Lib.hid (And.intro HP1.out.both.pat.ok (And.intro HP1.out.both.hn (And.intro HP1.out.len1 HP1.out.len2)))
              obtain ⟨A1, a1, rfl, hl1⟩ := hv1
              obtain ⟨A2, a2, rfl, hl2⟩ := hv2
              have HV1 := Lib.hid hl1
              have HV2 := Lib.hid hl2
              clear s0 s1 hruns hpat hr1 hr3 hg1 hg3 hbut hgood hle hyn hy1 hy2 hyg hra hrw hl1 hl2 HP1 HB1
              go_upto_region 14 with (fail)
              have B8 := box_below w7 (.cells #[.slice (some ⟨t1, 0, none⟩) n1 f1, .slice (some ⟨t3, 0, none⟩) n2 f3] 42)
              have HT8 := Lib.hid (alloc_rowV w7 42 [.slice (some ⟨t1, 0, none⟩) n1 f1, .slice (some ⟨t3, 0, none⟩) n2 f3])
              have HSH8 := Lib.hid (HSH.out.below B8)
              have HRA8 := Lib.hid (HRA.out.below B8)
              have HRW8 := Lib.hid (HRW.out.below HRW.out.lt B8)
              have HPA8 := Lib.hid (HPA.out.kept B8)
              have HR18 := Lib.hid (exB HR1.out B8)
              have HR38 := Lib.hid (exB HR3.out B8)
              have HV18 := Lib.hid (HV1.out.below B8)
              have HV28 := Lib.hid (HV2.out.below B8)
              have HB8 := Lib.hid (HB7.out.trans (B8.mono HB7.out.size))
              have HTS := Lib.hid (show S ≠ w7.heap.size ∧ x ≠ w7.heap.size from ⟨by have := HSH.out.row.lt; omega, by have := HRW.out.lt; omega⟩)
              clear B8 HSH HRA HRW HPA HR1 HR3 HV1 HV2 HB7
              change Hid (RowV (w7.alloc (.cells #[.slice (some ⟨t1, 0, none⟩) n1 f1, .slice (some ⟨t3, 0, none⟩) n2 f3] 42)) _ _ _) at HT8
              generalize w7.alloc (.cells #[.slice (some ⟨t1, 0, none⟩) n1 f1, .slice (some ⟨t3, 0, none⟩) n2 f3] 42) = w8 at *
              obtain ⟨T, hT⟩ : ∃ T, T = w7.heap.size := ⟨_, rfl⟩
              rw [← hT] at HT8 HTS ⊢
              clear hT
              have r0 := HRW8.out.cellAt (i := 0) rfl
              have r1 := HRW8.out.cellAt (i := 1) rfl
              have r2 := HRW8.out.cellAt (i := 2) rfl
              have r3 := HRW8.out.cellAt (i := 3) rfl
              have r4 := HRW8.out.cellAt (i := 4) rfl
              have s0 := HSH8.out.row.cellAt (i := 0) rfl
              have s1 := HSH8.out.row.cellAt (i := 1) rfl
              go_wp2_with fail
              refine (rplace_yes HRA8.out HPQ.out.1 HPQ.out.2.1 (has_ex HSH8.out.r1) (has_ex HSH8.out.r3) (by rw [HPQ.out.2.2.1, HPQ.out.2.1]; exact HNN.out.1) (by rw [HPQ.out.2.2.2, HPQ.out.2.1]; exact HNN.out.2) HPQ.out.2.2.1 HPQ.out.2.2.2 HRT.out HRM.out).mono ?_
              rintro e w9 ⟨k1, ek, u1, i1, u3, i3, h1, j1, h3, j3, y2, rfl, hruns2, hrw9, bz⟩
              obtain rfl : yy = y2 := HRU.out.uniq hruns2
              have HW9 := Lib.hid hrw9
              have HSH9 := Lib.hid (HSH8.out.below bz)
              have HRW9 := Lib.hid (HRW8.out.below HRW8.out.lt bz)
              have HPA9 := Lib.hid (HPA8.out.kept bz)
              have HR19 := Lib.hid (exB HR18.out bz)
              have HR39 := Lib.hid (exB HR38.out bz)
              have HV19 := Lib.hid (HV18.out.below bz)
              have HV29 := Lib.hid (HV28.out.below bz)
              have HT9 := Lib.hid (HT8.out.below HT8.out.lt bz)
              have HB9 := Lib.hid (HB8.out.trans (bz.mono HB8.out.size))
              clear r0 r1 r2 r3 r4 s0 s1 hruns2 hrw9 bz HSH8 HRW8 HRA8 HPA8 HR18 HR38 HV18 HV28 HT8 HB8 HRU
              have hz9 := state_zero w9
              have Z9 := box_below w9 (.cells #[.slice none 0 0, .slice none 0 0, .int .i64 0, .int .i64 0, .int .i64 0, .slice none 0 0, .slice none 0 0, .slice none 0 0, .slice none 0 0] 57)
              have RV0 := Lib.hid (alloc_rowV w9 57 [.slice none 0 0, .slice none 0 0, .int .i64 0, .int .i64 0, .int .i64 0, .slice none 0 0, .slice none 0 0, .slice none 0 0, .slice none 0 0])
              have HSZ := Lib.hid state_size
              go_upto_region 15 with (first
                | (refine wpList_store_row rfl 57 (.tmp 21) (.tmp 95) rfl w9.heap.size #[.slice (some ⟨k1, 0, none⟩) n ek, .slice (some ⟨b2, 0, none⟩) n c2, .int .i64 (yy.q.first : Int), .int .i64 (yy.q.next : Int), .int .i64 (yy.q.asked : Int), .slice (some ⟨u1, 0, none⟩) n1 i1, .slice (some ⟨u3, 0, none⟩) n2 i3, .slice (some ⟨h1, 0, none⟩) n1 j1, .slice (some ⟨h3, 0, none⟩) n2 j3] rfl rfl _ _ RV0.out HSZ.out rfl (by simp [Value.oneCell']) ?_)
                | fail)
              clear hz9
              have U9 := setRow_but (w9.alloc (.cells #[.slice none 0 0, .slice none 0 0, .int .i64 0, .int .i64 0, .int .i64 0, .slice none 0 0, .slice none 0 0, .slice none 0 0, .slice none 0 0] 57)) w9.heap.size #[.slice (some ⟨k1, 0, none⟩) n ek, .slice (some ⟨b2, 0, none⟩) n c2, .int .i64 (yy.q.first : Int), .int .i64 (yy.q.next : Int), .int .i64 (yy.q.asked : Int), .slice (some ⟨u1, 0, none⟩) n1 i1, .slice (some ⟨u3, 0, none⟩) n2 i3, .slice (some ⟨h1, 0, none⟩) n1 j1, .slice (some ⟨h3, 0, none⟩) n2 j3]
              have hsx := HSH9.out.row.lt
              have hxx := HRW9.out.lt
              have htx := HT9.out.lt
              have HSHA := HSH9.out.below Z9
              have HSHB := Lib.hid (HSHA.other RV0.out (by decide) (by decide) U9)
              have HRWB := Lib.hid (RowV.butL (HRW9.out.below hxx Z9) U9 (by omega))
              have hrwb := HW9.out.below Z9
              have hrwc := hrwb.row RV0.out U9 (by decide) (by decide)
              have hpab := HPA9.out.kept Z9
              have hoff := PAt.off hpab RV0.out (by decide) (by decide) (by decide)
              have HRES := Lib.hid (show Res ((w9.alloc (.cells #[.slice none 0 0, .slice none 0 0, .int .i64 0, .int .i64 0, .int .i64 0, .slice none 0 0, .slice none 0 0, .slice none 0 0, .slice none 0 0] 57)).setRow w9.heap.size #[.slice (some ⟨k1, 0, none⟩) n ek, .slice (some ⟨b2, 0, none⟩) n c2, .int .i64 (yy.q.first : Int), .int .i64 (yy.q.next : Int), .int .i64 (yy.q.asked : Int), .slice (some ⟨u1, 0, none⟩) n1 i1, .slice (some ⟨u3, 0, none⟩) n2 i3, .slice (some ⟨h1, 0, none⟩) n1 j1, .slice (some ⟨h3, 0, none⟩) n2 j3]) p ta cb mb n n1 n2 k1 ek b2 c2 t1 f1 t3 f3 u1 i1 u3 i3 h1 j1 h3 j3 T w9.heap.size yy (.slice A1 (doneL yy.f1).length a1) (.slice A2 (doneL yy.f2).length a2) from
                ⟨hpab.blocks (U9.block _ hpab.row.lt (by simp; exact Ne.symm hoff.1)) (U9.block _ hpab.tally.row.lt (by simp; exact Ne.symm hoff.2.1)) (U9.block _ hpab.tally.cb_lt (by simp; exact Ne.symm hoff.2.2.1)) (U9.block _ hpab.tally.mp.lt (by simp; exact Ne.symm hoff.2.2.2)),
                 hrwc.rat, exU (exB HR19.out Z9) U9 (by simp; have := exLt HR19.out; omega), exU (exB HR39.out Z9) U9 (by simp; have := exLt HR39.out; omega), hrwc.r1, hrwc.r3, hrwc.t1, hrwc.t3,
                 ⟨A1, a1, rfl, told_off9 (HV19.out.below Z9) RV0.out U9 HV19.out (Nat.le_refl _)⟩, ⟨A2, a2, rfl, told_off9 (HV29.out.below Z9) RV0.out U9 HV29.out (Nat.le_refl _)⟩, RowV.butL (HT9.out.below htx Z9) U9 (by omega), setRow_row [.slice (some ⟨k1, 0, none⟩) n ek, .slice (some ⟨b2, 0, none⟩) n c2, .int .i64 (yy.q.first : Int), .int .i64 (yy.q.next : Int), .int .i64 (yy.q.asked : Int), .slice (some ⟨u1, 0, none⟩) n1 i1, .slice (some ⟨u3, 0, none⟩) n2 i3, .slice (some ⟨h1, 0, none⟩) n1 j1, .slice (some ⟨h3, 0, none⟩) n2 j3] RV0.out⟩)
              have HBB := Lib.hid ((HB9.out.trans (Z9.mono HB9.out.size)).trans (U9.below (B := w.heap.size) (by simp; exact HB9.out.size) (Nat.le_trans HB9.out.size Z9.size)))
              have HUL := Lib.hid (show S ≠ w9.heap.size ∧ x ≠ w9.heap.size by omega)
              clear Z9 RV0 U9 hsx hxx htx HSHA hrwb hrwc hpab hoff HW9 HSH9 HRW9 HPA9 HR19 HR39 HV19 HV29 HT9 HB9
              generalize (w9.alloc (.cells #[.slice none 0 0, .slice none 0 0, .int .i64 0, .int .i64 0, .int .i64 0, .slice none 0 0, .slice none 0 0, .slice none 0 0, .slice none 0 0] 57)).setRow w9.heap.size #[.slice (some ⟨k1, 0, none⟩) n ek, .slice (some ⟨b2, 0, none⟩) n c2, .int .i64 (yy.q.first : Int), .int .i64 (yy.q.next : Int), .int .i64 (yy.q.asked : Int), .slice (some ⟨u1, 0, none⟩) n1 i1, .slice (some ⟨u3, 0, none⟩) n2 i3, .slice (some ⟨h1, 0, none⟩) n1 j1, .slice (some ⟨h3, 0, none⟩) n2 j3] = w10 at *
              obtain ⟨U, hU⟩ : ∃ U, U = w9.heap.size := ⟨_, rfl⟩
              rw [← hU] at HRES HUL ⊢
              clear hU
              have z0 := HRES.out.rowT.cellAt (i := 0) rfl
              have z5 := HRES.out.rowU.cellAt (i := 5) rfl
              go_wp2_with fail
              refine (same_is (has_told HRES.out.r1) (has_told HRES.out.s1) (by have := HYL.out.1; omega) HYL.out.1 HYL.out.1).mono ?_
              rintro e wa ⟨rfl, bz⟩
              have HRES2 := Lib.hid (HRES.out.below bz)
              have HRWB2 := Lib.hid (HRWB.out.below HRWB.out.lt bz)
              have HSHB2 := Lib.hid (HSHB.out.below bz)
              have HBB2 := Lib.hid (HBB.out.trans (bz.mono HBB.out.size))
              clear z0 z5 bz HRES HRWB HSHB HBB
              have HRES := HRES2
              have HRWB := HRWB2
              have HSHB := HSHB2
              have HBB := HBB2
              clear HRES2 HRWB2 HSHB2 HBB2
              have z1 := HRES.out.rowT.cellAt (i := 1) rfl
              have z6 := HRES.out.rowU.cellAt (i := 6) rfl
              go_wp2_with fail
              refine (same_is (has_told HRES.out.r3) (has_told HRES.out.s3) (by have := HYL.out.2.1; omega) HYL.out.2.1 HYL.out.2.1).mono ?_
              rintro e wa ⟨rfl, bz⟩
              have HRES2 := Lib.hid (HRES.out.below bz)
              have HRWB2 := Lib.hid (HRWB.out.below HRWB.out.lt bz)
              have HSHB2 := Lib.hid (HSHB.out.below bz)
              have HBB2 := Lib.hid (HBB.out.trans (bz.mono HBB.out.size))
              clear z1 z6 bz HRES HRWB HSHB HBB
              have HRES := HRES2
              have HRWB := HRWB2
              have HSHB := HSHB2
              have HBB := HBB2
              clear HRES2 HRWB2 HSHB2 HBB2
              have z7 := HRES.out.rowU.cellAt (i := 7) rfl
              go_wp2_with fail
              refine (yes_is HRES.out.z1 (by rw [HYL.out.2.2.2.2.fl1]; have := HYL.out.1; omega) (by rw [HYL.out.2.2.2.2.fl1]; exact HYL.out.1)).mono ?_
              rintro e wa ⟨va, rfl, ⟨Aa, ca, rfl, hta⟩, bz⟩
              have HRES2 := Lib.hid (HRES.out.below bz)
              have HRWB2 := Lib.hid (HRWB.out.below HRWB.out.lt bz)
              have HSHB2 := Lib.hid (HSHB.out.below bz)
              have HBB2 := Lib.hid (HBB.out.trans (bz.mono HBB.out.size))
              clear z7 bz HRES HRWB HSHB HBB
              have HRES := HRES2
              have HRWB := HRWB2
              have HSHB := HSHB2
              have HBB := HBB2
              clear HRES2 HRWB2 HSHB2 HBB2
              go_wp2_with fail
              refine (same_is (list_is HRES.out.v1) hta (by have := done_len yy.f1; rw [HYL.out.2.2.2.2.fl1, HYL.out.1] at this; omega) rfl rfl).mono ?_
              clear hta
              rintro e wa ⟨rfl, bz⟩
              have HRES2 := Lib.hid (HRES.out.below bz)
              have HRWB2 := Lib.hid (HRWB.out.below HRWB.out.lt bz)
              have HSHB2 := Lib.hid (HSHB.out.below bz)
              have HBB2 := Lib.hid (HBB.out.trans (bz.mono HBB.out.size))
              clear  bz HRES HRWB HSHB HBB
              have HRES := HRES2
              have HRWB := HRWB2
              have HSHB := HSHB2
              have HBB := HBB2
              clear HRES2 HRWB2 HSHB2 HBB2
              have z8 := HRES.out.rowU.cellAt (i := 8) rfl
              go_wp2_with fail
              refine (yes_is HRES.out.z3 (by rw [HYL.out.2.2.2.2.fl2]; have := HYL.out.2.1; omega) (by rw [HYL.out.2.2.2.2.fl2]; exact HYL.out.2.1)).mono ?_
              rintro e wa ⟨va, rfl, ⟨Ab, cb', rfl, hta⟩, bz⟩
              have HRES2 := Lib.hid (HRES.out.below bz)
              have HRWB2 := Lib.hid (HRWB.out.below HRWB.out.lt bz)
              have HSHB2 := Lib.hid (HSHB.out.below bz)
              have HBB2 := Lib.hid (HBB.out.trans (bz.mono HBB.out.size))
              clear z8 bz HRES HRWB HSHB HBB
              have HRES := HRES2
              have HRWB := HRWB2
              have HSHB := HSHB2
              have HBB := HBB2
              clear HRES2 HRWB2 HSHB2 HBB2
              go_wp2_with fail
              refine (same_is (list_is HRES.out.v2) hta (by have := done_len yy.f2; rw [HYL.out.2.2.2.2.fl2, HYL.out.2.1] at this; omega) rfl rfl).mono ?_
              clear hta
              rintro e wa ⟨rfl, bz⟩
              have HRES2 := Lib.hid (HRES.out.below bz)
              have HRWB2 := Lib.hid (HRWB.out.below HRWB.out.lt bz)
              have HSHB2 := Lib.hid (HSHB.out.below bz)
              have HBB2 := Lib.hid (HBB.out.trans (bz.mono HBB.out.size))
              clear  bz HRES HRWB HSHB HBB
              have HRES := HRES2
              have HRWB := HRWB2
              have HSHB := HSHB2
              have HBB := HBB2
              clear HRES2 HRWB2 HSHB2 HBB2
              go_upto_region 22 with (fail)
              have HB := HBB
              clear HBB
              refine Inv2.wp_region_inv (fun b a wy => ∃ (z : Nat → Value), a = ⟨(List.toArray (.int .u16 (bn : Int) :: .slice (some ⟨ob, o, none⟩) len cap :: undef :: undef :: u4 :: .int .i64 (n : Int) :: .pointer (some ⟨ta, 0, none⟩) :: .int .i64 0 :: .pointer (some ⟨p, 0, none⟩) :: .int .i64 0 :: .pointer (some ⟨w2.heap.size, 0, none⟩) :: .int .i64 0 :: .pointer (some ⟨x, 0, none⟩) :: .int .i64 0 :: .pointer (some ⟨S, 0, none⟩) :: undef :: .pointer (some ⟨ro, 0, none⟩) :: .pointer (some ⟨T, 0, none⟩) :: .slice A1 (doneL yy.f1).length a1 :: .slice A2 (doneL yy.f2).length a2 :: .int .i64 0 :: .pointer (some ⟨U, 0, none⟩) :: .int .i64 0 :: u23 :: .int .u16 (bn : Int) :: .int .u16 (mm : Int) :: .int .i64 (mm : Int) :: .int .i64 (n : Int) :: .tuple #[.pointer (some ⟨ta, 0, none⟩), .int .i64 0] :: .int .i64 (n : Int) :: .tuple #[.pointer (some ⟨ta, 0, none⟩), .int .i64 0] :: .pointer (some ⟨ta, 0, none⟩) :: .int .i64 0 :: .tuple #[.pointer (some ⟨p, 0, none⟩), .int .i64 0] :: .pointer (some ⟨ta, 0, none⟩) :: .tuple #[.pointer (some ⟨p, 0, none⟩), .int .i64 0] :: .pointer (some ⟨p, 0, none⟩) :: .int .i64 0 :: .tuple #[.agg #[.slice (some ⟨ia, 0, none⟩) n ja, .slice (some ⟨ib, 0, none⟩) n jb], .int .i64 0] :: .int .i64 (n : Int) :: .tuple #[.agg #[.slice (some ⟨ia, 0, none⟩) n ja, .slice (some ⟨ib, 0, none⟩) n jb], .int .i64 0] :: .agg #[.slice (some ⟨ia, 0, none⟩) n ja, .slice (some ⟨ib, 0, none⟩) n jb] :: .int .i64 0 :: .tuple #[.agg #[.slice (some ⟨ia, 0, none⟩) n ja, .slice (some ⟨ib, 0, none⟩) n jb, .int .i64 2, .int .i64 2, .int .i64 0], .int .i64 0] :: .agg #[.slice (some ⟨ia, 0, none⟩) n ja, .slice (some ⟨ib, 0, none⟩) n jb] :: .tuple #[.agg #[.slice (some ⟨ia, 0, none⟩) n ja, .slice (some ⟨ib, 0, none⟩) n jb, .int .i64 2, .int .i64 2, .int .i64 0], .int .i64 0] :: .agg #[.slice (some ⟨ia, 0, none⟩) n ja, .slice (some ⟨ib, 0, none⟩) n jb, .int .i64 2, .int .i64 2, .int .i64 0] :: .int .i64 0 :: .int .i64 0 :: .bool false :: .bool false :: .int .i64 0 :: .bool false :: .bool false :: .bool false :: .int .i64 (n : Int) :: .int .i64 (need n : Int) :: .int .i64 (n : Int) :: .int .i64 (need n : Int) :: .bool false :: .bool false :: .bool false :: .int .i64 (n : Int) :: .int .i64 (-(n : Int)) :: .int .i64 0 :: .bool false :: .bool false :: .int .i64 (n : Int) :: .agg #[.slice (some ⟨ga, 0, none⟩) (pg n) (pg n), .slice (some ⟨gc, 0, none⟩) (pg (pg n)) (pg (pg n))] :: .slice (some ⟨ob, o, none⟩) len cap :: .slice (some ⟨ob, o, none⟩) len cap :: .int .i64 (len : Int) :: .int .i64 (m : Int) :: .slice (some ⟨ob, o, none⟩) m cap :: .int .i64 (m : Int) :: .int .i64 (k : Int) :: .bool true :: .pointer (some ⟨ob, o + k * 2, none⟩) :: .agg #[.int .u8 (y.what.toNat : Int), .int .i64 y.b] :: .pointer (some ⟨ro, 0, none⟩) :: .int .u8 (y.what.toNat : Int) :: .int .u8 4 :: .tuple #[.agg #[.slice (some ⟨t1, 0, none⟩) n1 f1, .slice (some ⟨t3, 0, none⟩) n2 f3], .slice A1 (doneL yy.f1).length a1, .slice A2 (doneL yy.f2).length a2, .int .i64 0] :: .pointer (some ⟨ta, 0, none⟩) :: .pointer (some ⟨p, 0, none⟩) :: .agg #[.slice (some ⟨g1, 0, none⟩) n1 d1, .slice (some ⟨g3, 0, none⟩) n2 d3] :: .tuple #[.agg #[.slice (some ⟨t1, 0, none⟩) n1 f1, .slice (some ⟨t3, 0, none⟩) n2 f3], .slice A1 (doneL yy.f1).length a1, .slice A2 (doneL yy.f2).length a2, .int .i64 0] :: .agg #[.slice (some ⟨t1, 0, none⟩) n1 f1, .slice (some ⟨t3, 0, none⟩) n2 f3] :: .slice A1 (doneL yy.f1).length a1 :: .slice A2 (doneL yy.f2).length a2 :: .int .i64 0 :: .tuple #[.agg #[.slice (some ⟨k1, 0, none⟩) n ek, .slice (some ⟨b2, 0, none⟩) n c2, .int .i64 (yy.q.first : Int), .int .i64 (yy.q.next : Int), .int .i64 (yy.q.asked : Int), .slice (some ⟨u1, 0, none⟩) n1 i1, .slice (some ⟨u3, 0, none⟩) n2 i3, .slice (some ⟨h1, 0, none⟩) n1 j1, .slice (some ⟨h3, 0, none⟩) n2 j3], .int .i64 0] :: .agg #[.slice (some ⟨b1, 0, none⟩) n c1, .slice (some ⟨b2, 0, none⟩) n c2, .int .i64 (q.first : Int), .int .i64 (q.next : Int), .int .i64 (q.asked : Int)] :: .agg #[.slice (some ⟨g1, 0, none⟩) n1 d1, .slice (some ⟨g3, 0, none⟩) n2 d3] :: .tuple #[.agg #[.slice (some ⟨k1, 0, none⟩) n ek, .slice (some ⟨b2, 0, none⟩) n c2, .int .i64 (yy.q.first : Int), .int .i64 (yy.q.next : Int), .int .i64 (yy.q.asked : Int), .slice (some ⟨u1, 0, none⟩) n1 i1, .slice (some ⟨u3, 0, none⟩) n2 i3, .slice (some ⟨h1, 0, none⟩) n1 j1, .slice (some ⟨h3, 0, none⟩) n2 j3], .int .i64 0] :: .agg #[.slice (some ⟨k1, 0, none⟩) n ek, .slice (some ⟨b2, 0, none⟩) n c2, .int .i64 (yy.q.first : Int), .int .i64 (yy.q.next : Int), .int .i64 (yy.q.asked : Int), .slice (some ⟨u1, 0, none⟩) n1 i1, .slice (some ⟨u3, 0, none⟩) n2 i3, .slice (some ⟨h1, 0, none⟩) n1 j1, .slice (some ⟨h3, 0, none⟩) n2 j3] :: .int .i64 0 :: .int .i64 0 :: .int .i64 0 :: .bool false :: .int .i64 0 :: .bool false :: u102 :: u103 :: u104 :: u105 :: u106 :: u107 :: u108 :: u109 :: u110 :: u111 :: u112 :: u113 :: u114 :: u115 :: .pointer (some ⟨T, 0, none⟩) :: .slice (some ⟨t1, 0, none⟩) n1 f1 :: .pointer (some ⟨U, 5, none⟩) :: .pointer (some ⟨U, 5, none⟩) :: .slice (some ⟨u1, 0, none⟩) n1 i1 :: .bool true :: .bool false :: .bool false :: .pointer (some ⟨T, 1, none⟩) :: .slice (some ⟨t3, 0, none⟩) n2 f3 :: .pointer (some ⟨U, 5, none⟩) :: .pointer (some ⟨U, 6, none⟩) :: .slice (some ⟨u3, 0, none⟩) n2 i3 :: .bool true :: .bool false :: .bool false :: .bool false :: .slice A1 (doneL yy.f1).length a1 :: .pointer (some ⟨U, 7, none⟩) :: .slice (some ⟨h1, 0, none⟩) n1 j1 :: .slice Aa (doneL yy.f1).length ca :: .bool true :: .bool false :: .bool false :: .bool false :: .slice A2 (doneL yy.f2).length a2 :: .pointer (some ⟨U, 8, none⟩) :: .slice (some ⟨h3, 0, none⟩) n2 j3 :: .slice Ab (doneL yy.f2).length cb' :: .bool true :: .bool false :: .bool false :: (z 148) :: (z 149) :: (z 150) :: .bool false :: .bool false :: u153 :: u154 :: u155 :: u156 :: u157 :: u158 :: u159 :: u160 :: .bool false :: .bool false :: u163 :: u164 :: u165 :: u166 :: u167 :: u168 :: u169 :: u170 :: u171 :: u172 :: u173 :: u174 :: u175 :: .bool false :: .bool false :: u178 :: u179 :: u180 :: u181 :: u182 :: u183 :: u184 :: u185 :: u186 :: u187 :: u188 :: u189 :: u190 :: .bool false :: .bool false :: u193 :: u194 :: u195 :: u196 :: u197 :: u198 :: u199 :: u200 :: u201 :: u202 :: u203 :: u204 :: u205 :: u206 :: u207 :: u208 :: u209 :: u210 :: u211 :: u212 :: u213 :: u214 :: undef :: [])), []⟩ ∧ Hid ((b 0 = true → (z 148) = .agg #[.slice (some ⟨t1, 0, none⟩) n1 f1, .slice (some ⟨t3, 0, none⟩) n2 f3]) ∧ (b 1 = true → (z 149) = .pointer (some ⟨U, 0, none⟩)) ∧ (b 2 = true → (z 150) = .agg #[.slice (some ⟨k1, 0, none⟩) n ek, .slice (some ⟨b2, 0, none⟩) n c2, .int .i64 (yy.q.first : Int), .int .i64 (yy.q.next : Int), .int .i64 (yy.q.asked : Int)])) ∧ Hid (Below w.heap.size w wy) ∧ Hid ((b 3 = false → RowV wy S 42 [.slice (some ⟨g1, 0, none⟩) n1 d1, .slice (some ⟨g3, 0, none⟩) n2 d3]) ∧ (b 3 = true → RowV wy S 42 [.slice (some ⟨t1, 0, none⟩) n1 f1, .slice (some ⟨t3, 0, none⟩) n2 f3]) ∧ (b 4 = false → RowV wy x 37 (rrow n q b1 c1 b2 c2)) ∧ (b 4 = true → RowV wy x 37 [.slice (some ⟨k1, 0, none⟩) n ek, .slice (some ⟨b2, 0, none⟩) n c2, .int .i64 (yy.q.first : Int), .int .i64 (yy.q.next : Int), .int .i64 (yy.q.asked : Int)]) ∧ Fin wy p ta cb mb n n1 n2 k1 ek b2 c2 t1 t3 yy ∧ RowV wy T 42 [.slice (some ⟨t1, 0, none⟩) n1 f1, .slice (some ⟨t3, 0, none⟩) n2 f3] ∧ RowV wy U 57 [.slice (some ⟨k1, 0, none⟩) n ek, .slice (some ⟨b2, 0, none⟩) n c2, .int .i64 (yy.q.first : Int), .int .i64 (yy.q.next : Int), .int .i64 (yy.q.asked : Int), .slice (some ⟨u1, 0, none⟩) n1 i1, .slice (some ⟨u3, 0, none⟩) n2 i3, .slice (some ⟨h1, 0, none⟩) n1 j1, .slice (some ⟨h3, 0, none⟩) n2 j3])) (by kernel_rfl) (by kernel_rfl) ?startR22 ?stepsR22 ?doneR22
              case startR22 =>
                intro b hb
                refine ⟨fun s => if s = 148 then u148 else if s = 149 then u149 else if s = 150 then u150 else undef, rfl, Lib.hid ⟨?_, ?_, ?_⟩, Lib.hid (HB.out.trans <| (show Still wa wa.drew from ⟨rfl, rfl, rfl, rfl⟩).below _), Lib.hid (⟨fun _ => HSHB.out.row.still (show Still wa wa.drew from ⟨rfl, rfl, rfl, rfl⟩), (fun e => by rw [hb _ (by decide)] at e; cases e), fun _ => HRWB.out.still (show Still wa wa.drew from ⟨rfl, rfl, rfl, rfl⟩), (fun e => by rw [hb _ (by decide)] at e; cases e), Fin.still (w := wa) ⟨HRES.out.pat, HRES.out.rat, HRES.out.r1, HRES.out.r3⟩ ((show Still wa wa.drew from ⟨rfl, rfl, rfl, rfl⟩).below _), HRES.out.rowT.still (show Still wa wa.drew from ⟨rfl, rfl, rfl, rfl⟩), HRES.out.rowU.still (show Still wa wa.drew from ⟨rfl, rfl, rfl, rfl⟩)⟩)⟩
                all_goals (intro e; first | rfl | (rw [hb _ (by decide)] at e; cases e))
              case stepsR22 =>
                refine ⟨?_, ?_, ?_, ?_, ?_, trivial⟩
                · rintro b a wy hb hd ⟨z, rfl, HV, HW, HX⟩ K hK
                  clear hd
                  obtain ⟨y1, y2, y3, y4, y5, y6, y7⟩ := HX.out
                  have q0 := y6.cellAt (i := 0) rfl
                  have q1 := y6.cellAt (i := 1) rfl
                  clear y1 y2 y3 y4 y5 y6 y7
                  go_simp
                  have V := HV.out
                  exact hK _ _ ⟨fun s => if s = 148 then .agg #[.slice (some ⟨t1, 0, none⟩) n1 f1, .slice (some ⟨t3, 0, none⟩) n2 f3] else z s, rfl, Lib.hid ⟨fun _ => rfl, V.2.1, V.2.2⟩, HW, HX⟩
                · rintro b a wy hb hd ⟨z, rfl, HV, HW, HX⟩ K hK
                  clear hd
                  go_simp
                  have V := HV.out
                  exact hK _ _ ⟨fun s => if s = 149 then .pointer (some ⟨U, 0, none⟩) else z s, rfl, Lib.hid ⟨V.1, fun _ => rfl, V.2.2⟩, HW, HX⟩
                · rintro b a wy hb hd ⟨z, rfl, HV, HW, HX⟩ K hK
                  simp [Region.binds] at hd
                  have e1 : (z 149) = .pointer (some ⟨U, 0, none⟩) := (HV.out.2.1) (by simp [hd])
                  clear hd
                  obtain ⟨y1, y2, y3, y4, y5, y6, y7⟩ := HX.out
                  have q0 := y7.cellAt (i := 0) rfl
                  have q1 := y7.cellAt (i := 1) rfl
                  have q2 := y7.cellAt (i := 2) rfl
                  have q3 := y7.cellAt (i := 3) rfl
                  have q4 := y7.cellAt (i := 4) rfl
                  clear y1 y2 y3 y4 y5 y6 y7
                  go_simp
                  have V := HV.out
                  exact hK _ _ ⟨fun s => if s = 150 then .agg #[.slice (some ⟨k1, 0, none⟩) n ek, .slice (some ⟨b2, 0, none⟩) n c2, .int .i64 (yy.q.first : Int), .int .i64 (yy.q.next : Int), .int .i64 (yy.q.asked : Int)] else if s = 149 then .pointer (some ⟨U, 0, none⟩) else z s, rfl, Lib.hid ⟨V.1, fun _ => rfl, fun _ => rfl⟩, HW, HX⟩
                · rintro b a wy hb hd ⟨z, rfl, HV, HW, HX⟩ K hK
                  simp [Region.binds] at hd
                  have e0 : (z 148) = .agg #[.slice (some ⟨t1, 0, none⟩) n1 f1, .slice (some ⟨t3, 0, none⟩) n2 f3] := (HV.out.1) (by simp [hd])
                  clear hd
                  obtain ⟨y1, y2, y3, y4, y5, y6, y7⟩ := HX.out
                  have hr := y1 hb
                  have q0 := hr.cellAt (i := 0) rfl
                  have q1 := hr.cellAt (i := 1) rfl
                  have fz0 := hr.free 0
                  have fz1 := hr.free 1
                  have HU := Lib.hid (sets2 wy S (.slice (some ⟨t1, 0, none⟩) n1 f1) (.slice (some ⟨t3, 0, none⟩) n2 f3))
                  have HA3 := Lib.hid ((hr.set 0 (.slice (some ⟨t1, 0, none⟩) n1 f1)).set 1 (.slice (some ⟨t3, 0, none⟩) n2 f3))
                  have HF := Lib.hid (Fin.other y5 hr HU.out (by decide) (by decide) (by decide) (by decide))
                  have HT := Lib.hid (RowV.butL y6 HU.out (Ne.symm HTS.out.1))
                  have HUU := Lib.hid (RowV.butL y7 HU.out (Ne.symm HUL.out.1))
                  have H3 := Lib.hid (fun e : b 4 = false => RowV.butL (y3 e) HU.out (row_ne (y3 e) hr (by decide)))
                  have H4 := Lib.hid (fun e : b 4 = true => RowV.butL (y4 e) HU.out (row_ne (y4 e) hr (by decide)))
                  clear y1 y2 y3 y4 y5 y6 y7 hr HX
                  go_simp
                  have V := HV.out
                  exact hK _ _ ⟨fun s => if s = 148 then .agg #[.slice (some ⟨t1, 0, none⟩) n1 f1, .slice (some ⟨t3, 0, none⟩) n2 f3] else z s, rfl, Lib.hid ⟨fun _ => rfl, V.2.1, V.2.2⟩, Lib.hid (HW.out.trans (HU.out.below (B := w.heap.size) (by simp; exact HSW.out) HW.out.size)), Lib.hid ⟨fun e => (by cases e), fun _ => HA3.out, H3.out, H4.out, HF.out, HT.out, HUU.out⟩⟩
                · rintro b a wy hb hd ⟨z, rfl, HV, HW, HX⟩ K hK
                  simp [Region.binds] at hd
                  have e2 : (z 150) = .agg #[.slice (some ⟨k1, 0, none⟩) n ek, .slice (some ⟨b2, 0, none⟩) n c2, .int .i64 (yy.q.first : Int), .int .i64 (yy.q.next : Int), .int .i64 (yy.q.asked : Int)] := (HV.out.2.2) (by simp [hd])
                  clear hd
                  obtain ⟨y1, y2, y3, y4, y5, y6, y7⟩ := HX.out
                  have hr : RowV wy x 37 [.slice (some ⟨b1, 0, none⟩) n c1, .slice (some ⟨b2, 0, none⟩) n c2, .int .i64 (q.first : Int), .int .i64 (q.next : Int), .int .i64 (q.asked : Int)] := y3 hb
                  have q0 := hr.cellAt (i := 0) rfl
                  have q1 := hr.cellAt (i := 1) rfl
                  have q2 := hr.cellAt (i := 2) rfl
                  have q3 := hr.cellAt (i := 3) rfl
                  have q4 := hr.cellAt (i := 4) rfl
                  have fz0 := hr.free 0
                  have fz1 := hr.free 1
                  have fz2 := hr.free 2
                  have fz3 := hr.free 3
                  have fz4 := hr.free 4
                  have HU := Lib.hid (sets5 wy x (.slice (some ⟨k1, 0, none⟩) n ek) (.slice (some ⟨b2, 0, none⟩) n c2) (.int .i64 (yy.q.first : Int)) (.int .i64 (yy.q.next : Int)) (.int .i64 (yy.q.asked : Int)))
                  have HA3 := Lib.hid (((((hr.set 0 (.slice (some ⟨k1, 0, none⟩) n ek)).set 1 (.slice (some ⟨b2, 0, none⟩) n c2)).set 2 (.int .i64 (yy.q.first : Int))).set 3 (.int .i64 (yy.q.next : Int))).set 4 (.int .i64 (yy.q.asked : Int)))
                  have HF := Lib.hid (Fin.other y5 hr HU.out (by decide) (by decide) (by decide) (by decide))
                  have HT := Lib.hid (RowV.butL y6 HU.out (Ne.symm HTS.out.2))
                  have HUU := Lib.hid (RowV.butL y7 HU.out (Ne.symm HUL.out.2))
                  have H3 := Lib.hid (fun e : b 3 = false => RowV.butL (y1 e) HU.out (row_ne (y1 e) hr (by decide)))
                  have H4 := Lib.hid (fun e : b 3 = true => RowV.butL (y2 e) HU.out (row_ne (y2 e) hr (by decide)))
                  clear y1 y2 y3 y4 y5 y6 y7 hr HX
                  go_simp
                  have V := HV.out
                  exact hK _ _ ⟨fun s => if s = 150 then .agg #[.slice (some ⟨k1, 0, none⟩) n ek, .slice (some ⟨b2, 0, none⟩) n c2, .int .i64 (yy.q.first : Int), .int .i64 (yy.q.next : Int), .int .i64 (yy.q.asked : Int)] else z s, rfl, Lib.hid ⟨V.1, V.2.1, fun _ => rfl⟩, Lib.hid (HW.out.trans (HU.out.below (B := w.heap.size) (by simp; exact HXW.out) HW.out.size)), Lib.hid ⟨H3.out, H4.out, fun e => (by cases e), fun _ => HA3.out, HF.out, HT.out, HUU.out⟩⟩
              case doneR22 =>
                rintro b a wy hb ⟨z, rfl, HV, HW, HX⟩
                have e0 := (HV.out.1) (hb 0)
                have e1 := (HV.out.2.1) (hb 1)
                have e2 := (HV.out.2.2) (hb 2)
                simp only [e0, e1, e2]
                clear HV e0 e1 e2
                have HFN := Lib.hid HX.out.2.2.2.2.1
                have HSN := Lib.hid (HX.out.2.1 (hb 3))
                have HXN := Lib.hid (HX.out.2.2.2.1 (hb 4))
                clear HX hb
                go_wp2_with fail
                go_meet
                exact ⟨Lib.hid ⟨yy.q, k1, ek, b2, c2, t1, f1, t3, f3, yy.l1, yy.l2, ⟨HFN.out.pat, HFN.out.rat, HXN.out, HYL.out.2.2.2.1⟩, ⟨HSN.out, HFN.out.r1, HFN.out.r3⟩, HYL.out.1, HYL.out.2.1, HYL.out.2.2.1⟩, HW⟩
          · have HRT := Lib.hid hrt
            clear hrt
            skip
            go_wp2_with fail
            refine (place_bad HP1.out.both.pat (has_told HP1.out.sh.r1) (has_told HP1.out.sh.r3) HP1.out.le HRT.out HP1.out.len1 HP1.out.len2).mono ?_
            rintro e w7 ⟨rfl, bz⟩
            unfold noV
            have HP7 := Lib.hid (HP1.out.below bz)
            have HB7 := Lib.hid (HB1.out.trans (bz.mono HB1.out.size))
            clear s0 s1 bz HP1 HB1
            go_upto_region 14 with (fail)
            have B8 := box_below w7 (.cells #[.slice none 0 0, .slice none 0 0] 42)
            have HT8 := Lib.hid (alloc_rowV w7 42 [.slice none 0 0, .slice none 0 0])
            have HP8 := Lib.hid (HP7.out.below B8)
            have HB8 := Lib.hid (HB7.out.trans (B8.mono HB7.out.size))
            clear B8 HP7 HB7
            change Hid (RowV (w7.alloc (.cells #[.slice none 0 0, .slice none 0 0] 42)) _ _ _) at HT8
            generalize w7.alloc (.cells #[.slice none 0 0, .slice none 0 0] 42) = w8 at *
            obtain ⟨T, hT⟩ : ∃ T, T = w7.heap.size := ⟨_, rfl⟩
            rw [← hT] at HT8 ⊢
            clear hT
            have t0 := HP8.out.both.row.cellAt (i := 0) rfl
            have t1 := HP8.out.both.row.cellAt (i := 1) rfl
            have t2 := HP8.out.both.row.cellAt (i := 2) rfl
            have t3 := HP8.out.both.row.cellAt (i := 3) rfl
            have t4 := HP8.out.both.row.cellAt (i := 4) rfl
            have s0 := HP8.out.sh.row.cellAt (i := 0) rfl
            have s1 := HP8.out.sh.row.cellAt (i := 1) rfl
            go_wp2_with fail
            refine (rplace_sheet HP8.out.both.rat HP8.out.both.pat.ok HP8.out.both.hn (has_ex HP8.out.sh.r1) (has_ex HP8.out.sh.r3) (by rw [HP8.out.len1, HP8.out.both.hn]; exact HNN.out.1) (by rw [HP8.out.len2, HP8.out.both.hn]; exact HNN.out.2) HP8.out.len1 HP8.out.len2 HRT.out).mono ?_
            rintro e w9 ⟨rfl, bz⟩
            have HP9 := Lib.hid (HP8.out.below bz)
            have HB9 := Lib.hid (HB8.out.trans (bz.mono HB8.out.size))
            have HT9 := Lib.hid (HT8.out.below HT8.out.lt bz)
            clear t0 t1 t2 t3 t4 s0 s1 bz HP8 HB8 HT8
            have hz9 := state_zero w9
            have Z9 := box_below w9 (.cells #[.slice none 0 0, .slice none 0 0, .int .i64 0, .int .i64 0, .int .i64 0, .slice none 0 0, .slice none 0 0, .slice none 0 0, .slice none 0 0] 57)
            have RV0 := Lib.hid (alloc_rowV w9 57 [.slice none 0 0, .slice none 0 0, .int .i64 0, .int .i64 0, .int .i64 0, .slice none 0 0, .slice none 0 0, .slice none 0 0, .slice none 0 0])
            have HSZ := Lib.hid state_size
            go_upto_region 15 with (first
              | (refine wpList_store_row rfl 57 (.tmp 21) (.tmp 95) rfl w9.heap.size #[.slice (some ⟨b1, 0, none⟩) n c1, .slice (some ⟨b2, 0, none⟩) n c2, .int .i64 (q.first : Int), .int .i64 (q.next : Int), .int .i64 (q.asked : Int), .slice (some ⟨g1, 0, none⟩) n1 d1, .slice (some ⟨g3, 0, none⟩) n2 d3, .slice none 0 0, .slice none 0 0] rfl rfl _ _ RV0.out HSZ.out rfl (by simp [Value.oneCell']) ?_)
              | fail)
            clear hz9
            have HPA := Lib.hid (HP9.out.below Z9)
            have HTA := Lib.hid (HT9.out.below HT9.out.lt Z9)
            have HBA := Lib.hid (HB9.out.trans (Z9.mono HB9.out.size))
            have U9 := setRow_but (w9.alloc (.cells #[.slice none 0 0, .slice none 0 0, .int .i64 0, .int .i64 0, .int .i64 0, .slice none 0 0, .slice none 0 0, .slice none 0 0, .slice none 0 0] 57)) w9.heap.size #[.slice (some ⟨b1, 0, none⟩) n c1, .slice (some ⟨b2, 0, none⟩) n c2, .int .i64 (q.first : Int), .int .i64 (q.next : Int), .int .i64 (q.asked : Int), .slice (some ⟨g1, 0, none⟩) n1 d1, .slice (some ⟨g3, 0, none⟩) n2 d3, .slice none 0 0, .slice none 0 0]
            have hlt9 := HP9.out.lts
            have HPB := Lib.hid (HPA.out.apart9 RV0.out U9)
            have HTB := Lib.hid (RowV.butL HTA.out U9 (by have := HT9.out.lt; omega))
            have HBB := Lib.hid (HBA.out.trans (U9.below (B := w.heap.size) (by simp; exact HB9.out.size) HBA.out.size))
            clear Z9 RV0 HP9 HB9 HT9 HPA HTA HBA U9 hlt9
            generalize (w9.alloc (.cells #[.slice none 0 0, .slice none 0 0, .int .i64 0, .int .i64 0, .int .i64 0, .slice none 0 0, .slice none 0 0, .slice none 0 0, .slice none 0 0] 57)).setRow w9.heap.size #[.slice (some ⟨b1, 0, none⟩) n c1, .slice (some ⟨b2, 0, none⟩) n c2, .int .i64 (q.first : Int), .int .i64 (q.next : Int), .int .i64 (q.asked : Int), .slice (some ⟨g1, 0, none⟩) n1 d1, .slice (some ⟨g3, 0, none⟩) n2 d3, .slice none 0 0, .slice none 0 0] = w10 at *
            have s0 := HTB.out.cellAt (i := 0) rfl
            have s1 := HTB.out.cellAt (i := 1) rfl
            go_wp2_with fail
            go_roundw
            case rel => exact ⟨k + 1, by omega, by go_num, Lib.hid ⟨_, _, _, _, _, _, _, _, _, _, _, HPB.out⟩, HBB⟩
            case measure => simp [Go.RowKit.intOf]; omega
      case rest =>
        obtain ⟨HS2, HB2⟩ := hcut
        clear HP1 HB1 HR1
        obtain ⟨q2, b1, c1, b2, c2, g1, d1, g3, d3, l1, l2, hpb⟩ := HS2.out
        have HP := Lib.hid hpb
        clear hpb HS2
        obtain ⟨w9, hw9⟩ : ∃ x, x = wc := ⟨_, rfl⟩
        subst hw9
        go_wp2_with fail
        go_loopw [200] (fun c wx => (∃ j : Nat, j ≤ n ∧ c = .int .i64 (j : Int)) ∧ Hid (Below w9.heap.size w9 wx)) (fun c _ => n - (Go.RowKit.intOf c).toNat)
        case atStart => exact ⟨⟨0, Nat.zero_le _, rfl⟩, Lib.hid (Below.refl _ _)⟩
        case round =>
          obtain ⟨⟨j, hj, rfl⟩, HBX⟩ := hrel
          have HPX := Lib.hid (HP.out.below HBX.out)
          by_cases hjn : j < n
          · have hji : (j : Int) < (n : Int) := by omega
            have hj0 : (0 : Int) ≤ (j : Int) := by omega
            have hjq : j < q2.s.n := by rw [HPX.out.both.hn]; exact hjn
            have cn := HPX.out.both.rat.cnt hjq
            have hg := getZ_nat q2.s hjq
            obtain ⟨cv, hcv⟩ : ∃ cv, cv = (q2.s.cnt j).toNat := ⟨_, rfl⟩
            rw [← hcv] at cn hg
            clear hcv
            have t0 := HPX.out.both.row.cellAt (i := 0) rfl
            have hcc : ((cv : Int) != (cv : Int)) = false := by simp
            go_upto_region 38 with (fail)
            go_quiet (first | (go_at_call 26; exact Calls.quiet_of_same (calls_flip (get_any (HPX.out.both.pat.tally.drewN _) _))))
            go_wp2_with fail
            have HB9 := Lib.hid (HBX.out.trans (drewN_below wr nq _))
            go_roundw
            case rel => exact ⟨⟨j + 1, by omega, by go_num⟩, HB9⟩
            case measure => simp [Go.RowKit.intOf]; omega
          · have hji : ¬ ((j : Int) < (n : Int)) := by omega
            obtain rfl : n = j := by omega
            have HS6 := Lib.hid (show PSide wr p ta cb mb n x S n1 n2 from ⟨_, _, _, _, _, _, _, _, _, _, _, HPX.out⟩)
            have HB6 := Lib.hid (HB2.out.trans (HBX.out.mono HB2.out.size))
            clear HPX HP HBX HB2
            go_wp2_with fail
            go_roundw
            case rel => exact ⟨k + 1, by omega, by go_num, HS6, HB6⟩
            case measure => simp [Go.RowKit.intOf]; omega
    · have hki : ¬ ((k : Int) < (m : Int)) := by omega
      obtain rfl : m = k := by omega
      go_wp2_with fail
      refine (awake_any _).mono ?_
      rintro e w6 ⟨rfl, bz⟩
      have HB6 := Lib.hid (HB.out.trans (bz.mono HB.out.size))
      clear bz
      go_wp2_with fail
      go_ret
      exact ⟨rfl, HB6.out⟩
end Go.Proofs.Ytlemjegngnfanaa.Pl

/- Operations that came in. (PlZ's.) -/
namespace Go.Proofs.Ytlemjegngnfanaa.Tl
open Go.RowKit Go.Proofs.Ytlemjegngnfanaa.Oct Go.Proofs.Ytlemjegngnfanaa.Mv Go.Maps Go.ChangeShapes Go.WideShapes Go.ChangeAt
set_option linter.unusedVariables false
section
variable {H : Type} {enc : TypeId × Value → H} {W : World}
theorem cellsOp : Try.prog.cellsOf 45 = 2 := by kernel_rfl
theorem came_op {n : Nat} {cs : List Value} {y : DataW H × List MemPlace} (h : DataW.trod enc Try.prog W 0 (fun _ => true) true n 45 cs = some y) :
    ∃ x : Opr, cs = [.int .u8 (x.what.toNat : Int), .int .i64 x.b] ∧ (Lit.int .i64 x.b).wf = true := by
  obtain ⟨xs, n', rfl, hy, hlen, hxl, hf⟩ := DataW.trod_struct Try.underlying45 h
  rw [cellsOp] at hlen
  obtain ⟨c0, c1, rfl⟩ := two cs hlen
  obtain ⟨y0, y1, rfl⟩ := two xs hxl
  have h0 : DataW.trod enc Try.prog W 0 (fun _ => true) true n' 5 (([c0, c1].drop 0).take (Try.prog.cellsOf 5)) = some y0 := hf 0 _ rfl
  have h1 : DataW.trod enc Try.prog W 0 (fun _ => true) true n' 3 (([c0, c1].drop 1).take (Try.prog.cellsOf 3)) = some y1 := hf 1 _ rfl
  rw [cellsU8] at h0
  rw [cellsI] at h1
  obtain ⟨x, e0, _, w0⟩ := DataW.trod_int Try.underlying5 h0
  obtain ⟨p, e1, _, w1⟩ := DataW.trod_int Try.underlying3 h1
  obtain ⟨x, rfl⟩ := u8_of w0
  simp at e0 e1
  subst e0 e1
  exact ⟨⟨x, p⟩, rfl, w1⟩
theorem came_ops {d : DataW H} {p : List MemPlace} (A : Option Addr) (len cap : Nat) (h : DataW.Trod enc Try.prog W 0 (fun _ => true) true 23 (.slice A len cap) d p) :
    ∃ l, OpsIn W A len cap l := by
  obtain ⟨fuel, hf⟩ := h
  rcases Go.Deep.open_slice Try.underlying23 hf with ⟨hcs, _⟩ | ⟨a, len', cap', m, n, D, Pl, hcs, hb, hl, hm, hmm, hx, hi⟩
  · simp [Value.cells] at hcs
    obtain ⟨rfl, rfl, rfl⟩ := hcs
    exact ⟨[], rfl, by simp, .inl rfl, Nat.le_refl _, Nat.zero_le _⟩
  · simp [Value.cells] at hcs
    obtain ⟨rfl, rfl, rfl⟩ := hcs
    rw [if_pos rfl] at hmm
    subst hmm
    have each : ∀ i, i < m → ∃ x : Opr, (Lit.int .i64 x.b).wf = true ∧ ∀ j (hj : j < 2), W.cell? ((a.add (i * 2)).add j) = [Value.int .u8 (x.what.toNat : Int), .int .i64 x.b][j]? := fun i him => by
      obtain ⟨cs', hc, ht'⟩ := hi i him
      obtain ⟨x, rfl, hx⟩ := came_op ht'
      rw [cellsOp] at hc
      obtain ⟨_, hcl, hat⟩ := World.cells?_some hc
      exact ⟨x, hx, fun j hj => hat j hj⟩
    obtain ⟨F, hF⟩ : ∃ F : Nat → Opr, ∀ i, i < len → (Lit.int .i64 (F i).b).wf = true ∧ ∀ j (hj : j < 2), W.cell? ((a.add (i * 2)).add j) = [Value.int .u8 ((F i).what.toNat : Int), .int .i64 (F i).b][j]? :=
      ⟨fun i => if h : i < m then (each i h).choose else ⟨0, 0⟩, fun i h => by
        have h' : i < m := by omega
        simp only [h', dif_pos]
        exact (each i h').choose_spec⟩
    refine ⟨(List.range len).map F, by simp, ?_, ?_, hl, hm⟩
    · intro x hx
      obtain ⟨i, hi2, rfl⟩ := List.mem_map.1 hx
      exact (hF i (by simpa using hi2)).1
    · rcases Nat.eq_zero_or_pos len with h0 | h0
      · left; simp [h0]
      · have h1 := (hF 0 (by omega)).2 0 (by omega)
        obtain ⟨b, o, spot⟩ := a
        have hspot : spot = none := by simpa [Addr.add] using World.cell?_spot h1
        subst hspot
        refine .inr ⟨b, o, rfl, fun i hi2 => ?_⟩
        have hil : i < len := by simpa using hi2
        have h2 := (hF i hil).2
        simp only [List.getElem_map, List.getElem_range]
        have ha : ∀ j, ((Addr.mk b o none).add (i * 2)).add j = ⟨b, o + i * 2 + j, none⟩ := fun j => by rw [Oct.add_plain, Oct.add_plain]
        exact ⟨by simpa [ha] using h2 0 (by omega), by simpa [ha] using h2 1 (by omega)⟩
end
end Go.Proofs.Ytlemjegngnfanaa.Tl
