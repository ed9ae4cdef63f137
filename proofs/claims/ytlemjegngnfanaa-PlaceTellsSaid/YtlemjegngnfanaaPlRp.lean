/- Several texts in one. (Written by bin/merge.py: PrU PrT PlRA PlRB PlRC PlRD PlRE.) -/
import Derived.Test.YtlemjegngnfanaaTlU
import Derived.Test.YtlemjegngnfanaaPrC
import Derived.Deep.LoopGhost
import Derived.Test.YtlemjegngnfanaaPlU
import Derived.Test.YtlemjegngnfanaaPkO
import Derived.Test.YtlemjegngnfanaaPlX
import Derived.Deep.DeepCutAuto
/- Add: what it answers lies in new memory. (Written by bin/fresh.py out of TlU.) -/
namespace Go.Proofs.Ytlemjegngnfanaa.Tl
open Go.RowKit Go.Proofs.Ytlemjegngnfanaa.Oct Go.Proofs.Ytlemjegngnfanaa.Mv Go.Maps
set_option linter.unusedVariables false
set_option maxRecDepth 100000 in
theorem radd_new {w : World} {b1 c1 b2 c2 : Nat} {s : St} (h : RAt w b1 c1 b2 c2 s) (i : Nat) (hi : i < s.n) (y : Int) (z : UInt16) (hy : -1 ≤ y ∧ y ≤ 1) (hz : ((s.cnt i).toNat : Int) + y = (z.toNat : Int)) :
    Calls Try.prog 18 #[rval s.n b1 c1 b2 c2, .int .i64 (i : Int), .int .i64 y] w fun e w' => ∃ d1 e1, e = .returned (.tuple #[rval s.n d1 e1 b2 c2, .int .i64 0]) ∧ RAt w' d1 e1 b2 c2 (s.put i z) ∧ Below w.heap.size w w' ∧ w.heap.size ≤ d1 := by
  have hzz := zero_rtally
  have HL2 := Lib.hid h.lt2
  have B1 := (Below.refl w.heap.size w).alloc (Nat.le_refl _) (.cells #[.slice (some ⟨b1, 0, none⟩) s.n c1, .slice (some ⟨b2, 0, none⟩) s.n c2] 33)
  have R1 := alloc_rowV w 33 [.slice (some ⟨b1, 0, none⟩) s.n c1, .slice (some ⟨b2, 0, none⟩) s.n c2]
  have R2 := alloc_rowV (w.alloc (.cells #[.slice (some ⟨b1, 0, none⟩) s.n c1, .slice (some ⟨b2, 0, none⟩) s.n c2] 33)) 33 [.slice none 0 0, .slice none 0 0]
  have hsz : (w.alloc (.cells #[.slice (some ⟨b1, 0, none⟩) s.n c1, .slice (some ⟨b2, 0, none⟩) s.n c2] 33)).heap.size = w.heap.size + 1 := by simp
  have B2' := (Below.refl _ (w.alloc (.cells #[.slice (some ⟨b1, 0, none⟩) s.n c1, .slice (some ⟨b2, 0, none⟩) s.n c2] 33))).alloc (Nat.le_refl _) (.cells #[.slice none 0 0, .slice none 0 0] 33)
  have B2 := B1.alloc B1.size (.cells #[.slice none 0 0, .slice none 0 0] 33)
  have R1' := R1.below R1.lt B2'
  rw [hsz] at R2
  have H2 := Lib.hid (h.below B2)
  have HB := Lib.hid B2
  have HR1 := Lib.hid R1'
  have HR2 := Lib.hid R2
  have hlt : (i : Int) < (s.n : Int) := by omega
  have hge : ¬ ((i : Int) < 0) := by omega
  have hge2 : (0 : Int) ≤ (i : Int) := by omega
  have hnle : ¬ ((s.n : Int) ≤ (i : Int)) := by omega
  have hu := u16_lt (s.cnt i)
  have hzu := u16_lt z
  have hz1 : ¬ (65535 < (z.toNat : Int)) := by omega
  have hz2 : ¬ ((z.toNat : Int) < 0) := by omega
  have hw1 := hy.1
  have hw2 := hy.2
  clear B1 B2 B2' h hy R1 R2 R1' hsz
  unfold rval
  go_enter Try.func18, Try.ntmps18
  go_upto_region 1 with (fail)
  generalize (w.alloc (.cells #[.slice (some ⟨b1, 0, none⟩) s.n c1, .slice (some ⟨b2, 0, none⟩) s.n c2] 33)).alloc (.cells #[.slice none 0 0, .slice none 0 0] 33) = w2 at *
  have cn := H2.out.cnt hi
  have d0 := HR1.out.cellAt (i := 0) rfl
  have d1 := HR1.out.cellAt (i := 1) rfl
  go_upto_region 8 with (fail)
  refine Inv2.wp_region_inv (fun b a wy => ∃ z9 z33 z34 z35 z36 z37 z38 z39, a = ⟨(List.toArray (Value.agg #[Value.slice (some { block := b1, off := 0 }) s.n c1, Value.slice (some { block := b2, off := 0 }) s.n c2] :: Value.int IntKind.i64 ↑i :: Value.int IntKind.i64 y :: Value.pointer (some { block := w.heap.size, off := 0 }) :: undef :: undef :: Value.pointer (some { block := w.heap.size + 1, off := 0 }) :: Value.int IntKind.i64 0 :: Value.int IntKind.i64 ↑z.toNat :: z9 :: Value.int IntKind.i64 ↑i :: Value.bool false :: Value.bool false :: Value.int IntKind.i64 ↑i :: Value.pointer (some { block := w.heap.size, off := 0 }) :: Value.slice (some { block := b1, off := 0 }) s.n c1 :: Value.int IntKind.i64 ↑s.n :: Value.bool false :: Value.bool false :: undef :: Value.pointer (some { block := w.heap.size, off := 0 }) :: Value.slice (some { block := b1, off := 0 }) s.n c1 :: Value.int IntKind.i64 ↑i :: Value.pointer (some { block := b1, off := i }) :: Value.int IntKind.i64 ↑(s.cnt i).toNat :: Value.int IntKind.i64 y :: Value.int IntKind.i64 ↑z.toNat :: Value.int IntKind.i64 ↑z.toNat :: Value.bool false :: undef :: Value.int IntKind.i64 ↑z.toNat :: Value.bool false :: undef :: z33 :: z34 :: z35 :: z36 :: z37 :: z38 :: z39 :: undef :: undef :: undef :: undef :: undef :: undef :: [])), []⟩ ∧ Hid ((b 1 = true → z34 = .pointer (some ⟨w.heap.size, 0, none⟩)) ∧ (b 2 = true → z35 = .slice (some ⟨b1, 0, none⟩) s.n c1) ∧ (b 4 = true → z37 = .pointer (some ⟨w.heap.size, 1, none⟩)) ∧ (b 5 = true → z38 = .slice (some ⟨b2, 0, none⟩) s.n c2)) ∧ Hid (Below w2.heap.size w2 wy) ∧ Hid (∃ q g c r, (b 0 = true → b 3 = false → z33 = .slice (some ⟨q, 0, none⟩) 0 0 ∧ OwnI wy w2.heap.size (.slice (some ⟨q, 0, none⟩) 0 0) []) ∧ (b 3 = true → z36 = .slice (some ⟨g, 0, none⟩) s.n c ∧ OwnI wy w2.heap.size (.slice (some ⟨g, 0, none⟩) s.n c) (nowI s.now)) ∧ (b 6 = true → z39 = .agg #[z36, .slice (some ⟨b2, 0, none⟩) s.n c2]) ∧ (b 7 = true → b 8 = false → z9 = .pointer (some ⟨r, 0, none⟩) ∧ w2.heap.size ≤ r ∧ RowV wy r 33 [.slice none 0 0, .slice none 0 0]) ∧ (b 8 = true → z9 = .pointer (some ⟨r, 0, none⟩) ∧ w2.heap.size ≤ r ∧ RowV wy r 33 [z36, .slice (some ⟨b2, 0, none⟩) s.n c2]) ∧ (b 8 = true → b 0 = true ∧ b 3 = true ∧ b 6 = true ∧ b 7 = true) ∧ (b 6 = true → b 3 = true) ∧ (b 3 = true → b 0 = true))) (by kernel_rfl) (by kernel_rfl) ?startU8 ?stepsU8 ?doneU8
  case startU8 =>
    intro b hb
    refine ⟨undef, undef, undef, undef, undef, undef, undef, undef, rfl, Lib.hid ⟨?_, ?_, ?_, ?_⟩, Lib.hid ((show Still w2 w2.drew from ⟨rfl, rfl, rfl, rfl⟩).below _), Lib.hid (⟨0, 0, 0, 0, (fun e => by rw [hb _ (by decide)] at e; cases e), (fun e => by rw [hb _ (by decide)] at e; cases e), (fun e => by rw [hb _ (by decide)] at e; cases e), (fun e => by rw [hb _ (by decide)] at e; cases e), (fun e => by rw [hb _ (by decide)] at e; cases e), (fun e => by rw [hb _ (by decide)] at e; cases e), (fun e => by rw [hb _ (by decide)] at e; cases e), (fun e => by rw [hb _ (by decide)] at e; cases e)⟩)⟩
    all_goals (intro e; first | rfl | (rw [hb _ (by decide)] at e; cases e))
  case stepsU8 =>
    refine ⟨?_, ?_, ?_, ?_, ?_, ?_, ?_, ?_, ?_, trivial⟩
    · rintro b a wy hb hd ⟨z9, z33, z34, z35, z36, z37, z38, z39, rfl, HV, HW, HX⟩ K hK
      obtain ⟨h1, h2, h4, h5⟩ := HV.out
      clear hd
      go_simp
      obtain ⟨q, g, c, r, x0, x3, x6, x7, x8, x9, y6, y3⟩ := HX.out
      have B2 := (Below.refl wy.heap.size wy).alloc (Nat.le_refl _) (.cells #[] 3)
      exact hK _ _ ⟨_, _, _, _, _, _, _, _, rfl, Lib.hid ⟨h1, h2, h4, h5⟩, Lib.hid (HW.out.trans (B2.mono HW.out.size)), Lib.hid ⟨wy.heap.size, g, c, r, fun _ _ => ⟨rfl, own_made wy _ HW.out.size⟩, fun e => ⟨(x3 e).1, (x3 e).2.below B2⟩, x6, fun e e' => ⟨(x7 e e').1, (x7 e e').2.1, (x7 e e').2.2.below (x7 e e').2.2.lt B2⟩, fun e => ⟨(x8 e).1, (x8 e).2.1, (x8 e).2.2.below (x8 e).2.2.lt B2⟩, fun e => ⟨rfl, (x9 e).2⟩, y6, fun e => rfl⟩⟩
    · rintro b a wy hb hd ⟨z9, z33, z34, z35, z36, z37, z38, z39, rfl, HV, HW, HX⟩ K hK
      obtain ⟨h1, h2, h4, h5⟩ := HV.out
      clear hd
      go_simp
      exact hK _ _ ⟨_, _, _, _, _, _, _, _, rfl, Lib.hid ⟨fun _ => rfl, h2, h4, h5⟩, HW, HX⟩
    · rintro b a wy hb hd ⟨z9, z33, z34, z35, z36, z37, z38, z39, rfl, HV, HW, HX⟩ K hK
      obtain ⟨h1, h2, h4, h5⟩ := HV.out
      simp [Region.binds] at hd
      obtain rfl := h1 (by simp [hd])
      clear hd
      have hR1 := HR1.out.below HR1.out.lt HW.out
      have d0 := hR1.cellAt (i := 0) rfl
      have d1 := hR1.cellAt (i := 1) rfl
      clear hR1
      go_simp
      exact hK _ _ ⟨_, _, _, _, _, _, _, _, rfl, Lib.hid ⟨h1, fun _ => rfl, h4, h5⟩, HW, HX⟩
    · rintro b a wy hb hd ⟨z9, z33, z34, z35, z36, z37, z38, z39, rfl, HV, HW, HX⟩ K hK
      obtain ⟨h1, h2, h4, h5⟩ := HV.out
      simp [Region.binds] at hd
      have dd0 : b 0 = true := by simp [hd]
      obtain rfl := h2 (by simp [hd])
      clear hd
      obtain ⟨q, g, c, r, x0, x3, x6, x7, x8, x9, y6, y3⟩ := HX.out
      obtain ⟨rfl, hoq⟩ := x0 dd0 hb
      have hbb := HW.out.size
      obtain ⟨g', c', w', hrun, hog, hgr⟩ := app_wide (l := s.now) (c1 := c1) hoq (H2.out.below HW.out).now H2.out.ok.lo H2.out.ok.hi hbb 31
      have HGR := Lib.hid hgr
      have HOG := Lib.hid hog
      have HOQ := Lib.hid hoq
      have HX2 := Lib.hid (And.intro x6 (And.intro x7 (And.intro x8 (And.intro x9 (And.intro y6 y3)))))
      clear hgr hog hoq hbb HX x0 x3 x6 x7 x8 x9 y6 y3
      refine if_wanted (by rfl) (wp_append_run (.tmp 33) (.tmp 35) 31 rfl _ _ rfl rfl _ _ hrun ?_)
      obtain ⟨x6, x7, x8, x9, y6, y3⟩ := HX2.out
      exact hK _ _ ⟨_, _, _, _, _, _, _, _, rfl, Lib.hid ⟨h1, h2, h4, h5⟩, Lib.hid (HW.out.grown HGR.out HW.out.size (fun k e => by cases e; exact HOQ.out.ge.1)), Lib.hid ⟨q, g', c', r, fun _ e => (by cases e), fun _ => ⟨rfl, HOG.out⟩, fun e => absurd (y6 e) (by rw [hb]; decide), fun e e' => ⟨(x7 e e').1, (x7 e e').2.1, ((x7 e e').2.2).block (HGR.out.block r ((x7 e e').2.2).lt (fun ee => HOQ.out.ne ((x7 e e').2.2) (by decide) (by cases ee; rfl)))⟩, fun e => absurd (x9 e).2.1 (by rw [hb]; decide), fun e => absurd (x9 e).2.1 (by rw [hb]; decide), fun e => rfl, fun _ => dd0⟩⟩
    · rintro b a wy hb hd ⟨z9, z33, z34, z35, z36, z37, z38, z39, rfl, HV, HW, HX⟩ K hK
      obtain ⟨h1, h2, h4, h5⟩ := HV.out
      clear hd
      go_simp
      exact hK _ _ ⟨_, _, _, _, _, _, _, _, rfl, Lib.hid ⟨h1, h2, fun _ => rfl, h5⟩, HW, HX⟩
    · rintro b a wy hb hd ⟨z9, z33, z34, z35, z36, z37, z38, z39, rfl, HV, HW, HX⟩ K hK
      obtain ⟨h1, h2, h4, h5⟩ := HV.out
      simp [Region.binds] at hd
      obtain rfl := h4 (by simp [hd])
      clear hd
      have hR1 := HR1.out.below HR1.out.lt HW.out
      have d0 := hR1.cellAt (i := 0) rfl
      have d1 := hR1.cellAt (i := 1) rfl
      clear hR1
      go_simp
      exact hK _ _ ⟨_, _, _, _, _, _, _, _, rfl, Lib.hid ⟨h1, h2, h4, fun _ => rfl⟩, HW, HX⟩
    · rintro b a wy hb hd ⟨z9, z33, z34, z35, z36, z37, z38, z39, rfl, HV, HW, HX⟩ K hK
      obtain ⟨h1, h2, h4, h5⟩ := HV.out
      simp [Region.binds] at hd
      have dd3 : b 3 = true := by simp [hd]
      obtain rfl := h5 (by simp [hd])
      clear hd
      obtain ⟨q, g, c, r, x0, x3, x6, x7, x8, x9, y6, y3⟩ := HX.out
      obtain ⟨rfl, hog⟩ := x3 dd3
      have HX2 := Lib.hid (And.intro x0 (And.intro hog (And.intro x7 (And.intro x8 (And.intro x9 y3)))))
      clear HX x0 x3 x6 x7 x8 x9 y6 y3 hog
      go_simp
      obtain ⟨x0, hog, x7, x8, x9, y3⟩ := HX2.out
      exact hK _ _ ⟨_, _, _, _, _, _, _, _, rfl, Lib.hid ⟨h1, h2, h4, h5⟩, HW, Lib.hid ⟨q, g, c, r, x0, fun _ => ⟨rfl, hog⟩, fun _ => rfl, x7, fun e => absurd (x9 e).2.2.1 (by rw [hb]; decide), fun e => absurd (x9 e).2.2.1 (by rw [hb]; decide), fun _ => dd3, y3⟩⟩
    · rintro b a wy hb hd ⟨z9, z33, z34, z35, z36, z37, z38, z39, rfl, HV, HW, HX⟩ K hK
      obtain ⟨h1, h2, h4, h5⟩ := HV.out
      clear hd
      go_simp
      obtain ⟨q, g, c, r, x0, x3, x6, x7, x8, x9, y6, y3⟩ := HX.out
      have B2 := (Below.refl wy.heap.size wy).alloc (Nat.le_refl _) (.cells #[.slice none 0 0, .slice none 0 0] 33)
      exact hK _ _ ⟨_, _, _, _, _, _, _, _, rfl, Lib.hid ⟨h1, h2, h4, h5⟩, Lib.hid (HW.out.trans (B2.mono HW.out.size)), Lib.hid ⟨q, g, c, wy.heap.size, fun e e3 => ⟨(x0 e e3).1, (x0 e e3).2.below B2⟩, fun e => ⟨(x3 e).1, (x3 e).2.below B2⟩, x6, fun _ _ => ⟨rfl, HW.out.size, alloc_rowV wy _ [.slice none 0 0, .slice none 0 0]⟩, fun e => absurd ((x9 e).2.2.2) (by rw [hb]; decide), fun e => absurd ((x9 e).2.2.2) (by rw [hb]; decide), y6, y3⟩⟩
    · rintro b a wy hb hd ⟨z9, z33, z34, z35, z36, z37, z38, z39, rfl, HV, HW, HX⟩ K hK
      obtain ⟨h1, h2, h4, h5⟩ := HV.out
      simp [Region.binds] at hd
      have dd7 : b 7 = true := by simp [hd]
      have dd6 : b 6 = true := by simp [hd]
      clear hd
      obtain ⟨q, g, c, r, x0, x3, x6, x7, x8, x9, y6, y3⟩ := HX.out
      obtain ⟨rfl, hrl, hrow⟩ := x7 dd7 hb
      obtain rfl := x6 dd6
      obtain ⟨rfl, hog⟩ := x3 (y6 dd6)
      have e0 := hrow.cellAt (i := 0) rfl
      have e1 := hrow.cellAt (i := 1) rfl
      have f0 := hrow.free 0
      have f1 := hrow.free 1
      have hne := hog.ne hrow (by decide)
      have HRS := Lib.hid ((hrow.set 0 (.slice (some ⟨g, 0, none⟩) s.n c)).set 1 (.slice (some ⟨b2, 0, none⟩) s.n c2))
      have HGS := Lib.hid ((hog.block (w' := wy.setCell ⟨r, 0, none⟩ (.slice (some ⟨g, 0, none⟩) s.n c)) (heap_setCell_other _ _ _ _ hne)).block (w' := (wy.setCell ⟨r, 0, none⟩ (.slice (some ⟨g, 0, none⟩) s.n c)).setCell ⟨r, 1, none⟩ (.slice (some ⟨b2, 0, none⟩) s.n c2)) (heap_setCell_other _ _ _ _ hne))
      have HWS := Lib.hid ((HW.out.setCell (p := ⟨r, 0, none⟩) hrl (.slice (some ⟨g, 0, none⟩) s.n c)).setCell (p := ⟨r, 1, none⟩) hrl (.slice (some ⟨b2, 0, none⟩) s.n c2))
      have HD := Lib.hid (And.intro hrl (And.intro dd7 (And.intro dd6 (And.intro (y6 dd6) (And.intro y6 y3)))))
      clear hrl hog hrow hne HX x0 x3 x6 x7 x8 x9 y6 y3
      go_simp
      exact hK _ _ ⟨_, _, _, _, _, _, _, _, rfl, Lib.hid ⟨h1, h2, h4, h5⟩, HWS, Lib.hid ⟨q, g, c, r, fun _ e3 => absurd e3 (by show ¬ b 3 = false; rw [HD.out.2.2.2.1]; decide), fun _ => ⟨rfl, HGS.out⟩, fun _ => rfl, fun _ e => (by cases e), fun _ => ⟨rfl, HD.out.1, HRS.out⟩, fun _ => ⟨HD.out.2.2.2.2.2 HD.out.2.2.2.1, HD.out.2.2.2.1, HD.out.2.2.1, HD.out.2.1⟩, HD.out.2.2.2.2.1, HD.out.2.2.2.2.2⟩⟩
  case doneU8 =>
    rintro b a wy hb ⟨z9, z33, z34, z35, z36, z37, z38, z39, rfl, HV, HW, HX⟩
    obtain ⟨h1, h2, h4, h5⟩ := HV.out
    obtain rfl := h1 (hb 1)
    obtain rfl := h2 (hb 2)
    obtain rfl := h4 (hb 4)
    obtain rfl := h5 (hb 5)
    clear HV h1 h2 h4 h5
    obtain ⟨q, g, c, r, -, x3, -, -, x8, -⟩ := HX.out
    obtain ⟨rfl, hog⟩ := x3 (hb 3)
    obtain ⟨rfl, hrl, hrow⟩ := x8 (hb 8)
    have HG := Lib.hid hog
    have HRO := Lib.hid hrow
    have HNE := Lib.hid (hog.ne hrow (by decide))
    have hgw := hog.hasWide.cellAt (wide_at s.now i hi)
    rw [Nat.zero_add] at hgw
    have fg := hog.frozen i
    clear d0 d1 cn
    have d0 := hrow.cellAt (i := 0) rfl
    have HB4 := Lib.hid (HB.out.trans (HW.out.mono HB.out.size))
    have HGL := Lib.hid hog.ge
    have HRL := Lib.hid hrl
    have HI := Lib.hid hi
    clear hog hrow x3 x8 HX hb hrl
    go_upto_region 10 with (fail)
    have HRO4 := Lib.hid (HRO.out.other (i := i) (v := .int .i64 (z.toNat : Int)) (fun e => HNE.out e.symm))
    have hsl := HR2.out.lt
    have hgl := HGL.out.1
    have HFR := Lib.hid (show w.heap.size ≤ g from Nat.le_trans HB.out.size HGL.out.1)
    have HR24 := Lib.hid ((HR2.out.below HR2.out.lt HW.out).other (q := g) (i := i) (v := .int .i64 (z.toNat : Int)) (by omega))
    have HG4 := Lib.hid (HG.out.stored i z)
    have HK4 := Lib.hid ((H2.out.kept.below H2.out.lt2 HW.out).block (w' := wy.setCell ⟨g, i, none⟩ (.int .i64 (z.toNat : Int))) (heap_setCell_other _ _ _ _ (by have := H2.out.lt2; show b2 ≠ g; omega)))
    have HB5 := Lib.hid (HB4.out.setCell (p := ⟨g, i, none⟩) (Nat.le_trans HB.out.size HGL.out.1) (.int .i64 (z.toNat : Int)))
    clear d0 hgw fg
    generalize wy.setCell ⟨g, i, none⟩ (.int .i64 (z.toNat : Int)) = w4 at *
    have d0 := HRO4.out.cellAt (i := 0) rfl
    have d1 := HRO4.out.cellAt (i := 1) rfl
    have e0 := HR24.out.cellAt (i := 0) rfl
    have e1 := HR24.out.cellAt (i := 1) rfl
    have f0 := HR24.out.free 0
    have f1 := HR24.out.free 1
    have HGN := Lib.hid (show g ≠ w.heap.size + 1 by omega)
    have HBN := Lib.hid (show b2 ≠ w.heap.size + 1 by have := HL2.out; omega)
    clear hsl hgl
    go_wp2_with fail
    have HR5 := Lib.hid ((HR24.out.set 0 (.slice (some ⟨g, 0, none⟩) s.n c)).set 1 (.slice (some ⟨b2, 0, none⟩) s.n c2))
    have hn5 := (HG4.out.hasWide.block (w' := w4.setCell ⟨w.heap.size + 1, 0, none⟩ (.slice (some ⟨g, 0, none⟩) s.n c)) (heap_setCell_other _ _ _ _ HGN.out)).block (w' := (w4.setCell ⟨w.heap.size + 1, 0, none⟩ (.slice (some ⟨g, 0, none⟩) s.n c)).setCell ⟨w.heap.size + 1, 1, none⟩ (.slice (some ⟨b2, 0, none⟩) s.n c2)) (heap_setCell_other _ _ _ _ HGN.out)
    have hk5 := (HK4.out.block (w' := w4.setCell ⟨w.heap.size + 1, 0, none⟩ (.slice (some ⟨g, 0, none⟩) s.n c)) (heap_setCell_other _ _ _ _ HBN.out)).block (w' := (w4.setCell ⟨w.heap.size + 1, 0, none⟩ (.slice (some ⟨g, 0, none⟩) s.n c)).setCell ⟨w.heap.size + 1, 1, none⟩ (.slice (some ⟨b2, 0, none⟩) s.n c2)) (heap_setCell_other _ _ _ _ HBN.out)
    have HB6 := Lib.hid ((HB5.out.setCell (p := ⟨w.heap.size + 1, 0, none⟩) (by show w.heap.size ≤ w.heap.size + 1; omega) (.slice (some ⟨g, 0, none⟩) s.n c)).setCell (p := ⟨w.heap.size + 1, 1, none⟩) (by show w.heap.size ≤ w.heap.size + 1; omega) (.slice (some ⟨b2, 0, none⟩) s.n c2))
    refine bodyPost_ret (v := .tuple #[.agg #[.slice (some ⟨g, 0, none⟩) s.n c, .slice (some ⟨b2, 0, none⟩) s.n c2], .int .i64 0]) ?_ rfl ⟨_, _, rfl, ⟨hn5, hk5, H2.out.ok.put i z⟩, HB6.out, HFR.out⟩
    clear hn5 hk5 d0 d1 e0 e1 f0 f1
    generalize (w4.setCell ⟨w.heap.size + 1, 0, none⟩ (.slice (some ⟨g, 0, none⟩) s.n c)).setCell ⟨w.heap.size + 1, 1, none⟩ (.slice (some ⟨b2, 0, none⟩) s.n c2) = w5 at *
    have d0 := HR5.out.cellAt (i := 0) rfl
    have d1 := HR5.out.cellAt (i := 1) rfl
    rw [results_cell_tmp rfl]
    go_simp
theorem radd_up_new {w : World} {b1 c1 b2 c2 : Nat} {s : St} (h : RAt w b1 c1 b2 c2 s) (i : Nat) (hi : i < s.n) (hx : s.cnt i ≠ 65535) :
    Calls Try.prog 18 #[rval s.n b1 c1 b2 c2, .int .i64 (i : Int), .int .i64 1] w fun e w' => ∃ d1 e1, e = .returned (.tuple #[rval s.n d1 e1 b2 c2, .int .i64 0]) ∧ RAt w' d1 e1 b2 c2 (s.put i (s.cnt i + 1)) ∧ Below w.heap.size w w' ∧ w.heap.size ≤ d1 := by
  have hne : (s.cnt i).toNat ≠ 65535 := fun e => hx (UInt16.toNat_inj.1 (by rw [e]; rfl))
  have hu := u16_lt (s.cnt i)
  exact radd_new h i hi 1 (s.cnt i + 1) (by omega) (by rw [UInt16.toNat_add]; show _ = ((((s.cnt i).toNat + 1) % 65536 : Nat) : Int); omega)
theorem radd_down_new {w : World} {b1 c1 b2 c2 : Nat} {s : St} (h : RAt w b1 c1 b2 c2 s) (i : Nat) (hi : i < s.n) (hx : s.cnt i ≠ 0) :
    Calls Try.prog 18 #[rval s.n b1 c1 b2 c2, .int .i64 (i : Int), .int .i64 (-1)] w fun e w' => ∃ d1 e1, e = .returned (.tuple #[rval s.n d1 e1 b2 c2, .int .i64 0]) ∧ RAt w' d1 e1 b2 c2 (s.put i (s.cnt i - 1)) ∧ Below w.heap.size w w' ∧ w.heap.size ≤ d1 := by
  have hne : (s.cnt i).toNat ≠ 0 := fun e => hx (UInt16.toNat_inj.1 (by rw [e]; rfl))
  have hu := u16_lt (s.cnt i)
  exact radd_new h i hi (-1) (s.cnt i - 1) (by omega) (by rw [UInt16.toNat_sub]; show _ = (((65536 - 1 + (s.cnt i).toNat) % 65536 : Nat) : Int); omega)
end Go.Proofs.Ytlemjegngnfanaa.Tl

/- Take: what it answers lies in new memory. (Written by bin/fresh.py out of PrC.) -/
namespace Go.Proofs.Ytlemjegngnfanaa.Pk
open Go.RowKit Go.Proofs.Ytlemjegngnfanaa.Oct Go.Proofs.Ytlemjegngnfanaa.Mv Go.Proofs.Ytlemjegngnfanaa.Tl Go.Maps
set_option linter.unusedVariables false
set_option maxRecDepth 100000 in
set_option maxHeartbeats 4000000 in
theorem rtake_new {w : World} {b1 c1 b2 c2 : Nat} {q : Q} (h : RAt w b1 c1 b2 c2 q.s) (hok : q.Ok) (hroom : 0 < q.room) :
    Calls Try.prog 16 #[rpv q b1 c1 b2 c2] w fun e w' => ∃ b k1 l1, e = .returned (.tuple #[rpv (q.took b) k1 l1 b2 c2, .int .i64 ((b : Nat) : Int), .int .i64 0]) ∧ q.Found b ∧ RAt w' k1 l1 b2 c2 (q.took b).s ∧ Below w.heap.size w w' ∧ w.heap.size ≤ k1 := by
  have hz := zero_rpick
  have hn' : q.s.n ≤ 4096 := hok.s.hi
  have B1 := box_below w (.cells (pc q (q.asked : Int) b1 c1 b2 c2) 37)
  have B2 := B1.alloc B1.size (.cells #[.slice none 0 0, .slice none 0 0, .int .i64 0, .int .i64 0, .int .i64 0] 37)
  have R1 := alloc_rowV w 37 (rpc q b1 c1 b2 c2)
  have R2 := alloc_rowV (w.alloc (.cells (pc q (q.asked : Int) b1 c1 b2 c2) 37)) 37 [.slice none 0 0, .slice none 0 0, .int .i64 0, .int .i64 0, .int .i64 0]
  have hs : (w.alloc (.cells (pc q (q.asked : Int) b1 c1 b2 c2) 37)).heap.size = w.heap.size + 1 := by simp
  have Z := box_below (w.alloc (.cells (pc q (q.asked : Int) b1 c1 b2 c2) 37)) (.cells #[.slice none 0 0, .slice none 0 0, .int .i64 0, .int .i64 0, .int .i64 0] 37)
  have HR1 := Lib.hid (show RowV _ w.heap.size 37 (rpc q b1 c1 b2 c2) from R1.below (by rw [hs]; omega) Z)
  rw [hs] at R2
  have HR2 := Lib.hid R2
  have HB := Lib.hid B2
  have HA := Lib.hid (h.below B2)
  have HO := Lib.hid hok
  clear B1 B2 R1 R2 Z h hok hs
  have HRO := Lib.hid (fun (wx : World) (hx : RAt wx b1 c1 b2 c2 q.s) => show Calls Try.prog 41 #[.agg #[.slice (some ⟨b1, 0, none⟩) q.s.n c1, .slice (some ⟨b2, 0, none⟩) q.s.n c2, .int .i64 (q.first : Int), .int .i64 (q.next : Int), .int .i64 (q.asked : Int)]] wx (fun e w' => e = .returned (.int .i64 (q.room : Int)) ∧ Below wx.heap.size wx w') from rroom_at hx HO.out)
  unfold rpv
  go_enter Try.func16, Try.ntmps16
  go_upto_region 1 with (fail)
  unfold pc at HR1 HR2 HB HA
  generalize (w.alloc (.cells #[.slice (some ⟨b1, 0, none⟩) q.s.n c1, .slice (some ⟨b2, 0, none⟩) q.s.n c2, .int .i64 (q.first : Int), .int .i64 (q.next : Int), .int .i64 (q.asked : Int)] 37)).alloc (.cells #[.slice none 0 0, .slice none 0 0, .int .i64 0, .int .i64 0, .int .i64 0] 37) = w1 at *
  obtain ⟨x, hx⟩ : ∃ x, x = w.heap.size := ⟨_, rfl⟩
  obtain ⟨y, hy⟩ : ∃ y, y = w.heap.size + 1 := ⟨_, rfl⟩
  have hxy : x ≠ y := by omega
  have hxw : w.heap.size ≤ x := by omega
  have hyw : w.heap.size ≤ y := by omega
  rw [← hy] at HR2 ⊢
  rw [← hx] at HR1 ⊢
  clear hx hy
  have d0 := HR1.out.cellAt (i := 0) rfl
  have d1 := HR1.out.cellAt (i := 1) rfl
  have d2 := HR1.out.cellAt (i := 2) rfl
  have d3 := HR1.out.cellAt (i := 3) rfl
  have d4 := HR1.out.cellAt (i := 4) rfl
  go_wp2_with fail
  refine (HRO.out _ HA.out).mono ?_
  rintro e w2 ⟨rfl, bz⟩
  have HA2 := Lib.hid (HA.out.below bz)
  have HX2 := Lib.hid (HR1.out.below HR1.out.lt bz)
  have HY2 := Lib.hid (HR2.out.below HR2.out.lt bz)
  have HB2 := Lib.hid (HB.out.trans (bz.mono HB.out.size))
  clear bz HA HR1 HR2 HB HRO d0 d1 d2 d3 d4
  have hr0 : ¬ ((q.room : Int) = 0) := by omega
  have hrb : ((q.room : Int) == 0) = false := by rw [beq_eq_false_iff_ne]; exact hr0
  have HNN := Lib.hid (show ¬ q.None from fun e => by have := (room_zero HO.out).2 e; omega)
  have hfi := HO.out.first
  have hle := HO.out.le
  have hnn : q.next < q.s.n := by
    rcases HO.out.next with e | e
    · exact e
    · by_cases e2 : q.next < q.s.n
      · exact e2
      · have : q.room = 0 := (room_zero HO.out).2 ⟨fun j a b => absurd a (by show ¬ q.next ≤ j; omega), fun j a b => absurd a (by show ¬ q.first ≤ j; have : j < q.next := b; omega)⟩
        omega
  clear hroom
  have d0 := HX2.out.cellAt (i := 0) rfl
  have d1 := HX2.out.cellAt (i := 1) rfl
  have d2 := HX2.out.cellAt (i := 2) rfl
  have d3 := HX2.out.cellAt (i := 3) rfl
  have d4 := HX2.out.cellAt (i := 4) rfl
  have e0 := HY2.out.cellAt (i := 0) rfl
  have e1 := HY2.out.cellAt (i := 1) rfl
  have e2 := HY2.out.cellAt (i := 2) rfl
  have e3 := HY2.out.cellAt (i := 3) rfl
  have e4 := HY2.out.cellAt (i := 4) rfl
  have f0 := HY2.out.free 0
  have f1 := HY2.out.free 1
  have f2 := HY2.out.free 2
  have f3 := HY2.out.free 3
  have f4 := HY2.out.free 4
  go_upto_region 3 with (fail)
  go_wp2_with fail
  clear hr0 hrb d0 e0 f0 d1 e1 f1 d2 e2 f2 d3 e3 f3 d4 e4 f4
  go_loopg [5] q.s.n (fun g s5 wx => ∃ b : Nat, s5 = .int .i64 (b : Int) ∧ b < q.s.n ∧ ((q.next ≤ b ∧ Hid (q.full 0 b) ∧ g + b = q.s.n + q.next) ∨ (Hid (q.full 0 q.s.n) ∧ q.first ≤ b ∧ b < q.next ∧ Hid (q.full 1 b) ∧ g + b = q.next)) ∧ Hid (Below w2.heap.size w2 wx))
  case atStart => exact ⟨q.next, rfl, hnn, .inl ⟨Nat.le_refl _, fun j h1 h2 => absurd h1 (by show ¬ q.next ≤ j; omega), by omega⟩, Lib.hid (Below.refl _ _)⟩
  case round =>
    obtain ⟨b, rfl, hbn, hph, HBL⟩ := hrel
    have HPH := Lib.hid hph
    clear hph
    have HA3 := Lib.hid (HA2.out.below HBL.out)
    have HX3 := Lib.hid (HX2.out.below HX2.out.lt HBL.out)
    have HY3 := Lib.hid (HY2.out.below HY2.out.lt HBL.out)
    have HB3 := Lib.hid (HB2.out.trans (HBL.out.mono HB2.out.size))
    have hbi : ¬ ((b : Int) = (q.s.n : Int)) := by omega
    have HF := Lib.hid (rfree_at HA3.out b hbn)
    have d0 := HX3.out.cellAt (i := 0) rfl
    have d1 := HX3.out.cellAt (i := 1) rfl
    have d2 := HX3.out.cellAt (i := 2) rfl
    have d3 := HX3.out.cellAt (i := 3) rfl
    have d4 := HX3.out.cellAt (i := 4) rfl
    have e0 := HY3.out.cellAt (i := 0) rfl
    have e1 := HY3.out.cellAt (i := 1) rfl
    have e2 := HY3.out.cellAt (i := 2) rfl
    have e3 := HY3.out.cellAt (i := 3) rfl
    have e4 := HY3.out.cellAt (i := 4) rfl
    have f0 := HY3.out.free 0
    have f1 := HY3.out.free 1
    have f2 := HY3.out.free 2
    have f3 := HY3.out.free 3
    have f4 := HY3.out.free 4
    cases hfr : q.s.free b
    · rw [hfr] at HF
      have HFR := Lib.hid hfr
      clear hfr
      go_wp2_with fail
      refine HF.out.mono ?_
      rintro e w4 ⟨rfl, bz⟩
      have HX4 := Lib.hid (HX3.out.below HX3.out.lt bz)
      have HBL4 := Lib.hid (HBL.out.trans (bz.mono HBL.out.size))
      clear bz d0 e0 f0 d1 e1 f1 d2 e2 f2 d3 e3 f3 d4 e4 f4
      have d0 := HX4.out.cellAt (i := 0) rfl
      have d1 := HX4.out.cellAt (i := 1) rfl
      have d2 := HX4.out.cellAt (i := 2) rfl
      have d3 := HX4.out.cellAt (i := 3) rfl
      have d4 := HX4.out.cellAt (i := 4) rfl
      by_cases hlast : b + 1 = q.s.n
      · have hli : (q.s.n : Int) ≤ (b : Int) + 1 := by omega
        go_wp2_with fail
        have hph := HPH.out
        go_roundg (q.next - q.first)
        case measure =>
          rcases hph with ⟨p1, p2, p3⟩ | ⟨p1, p2, p3, p4, p5⟩ <;> omega
        case rel =>
          rcases hph with ⟨p1, p2, p3⟩ | ⟨p1, p2, p3, p4, p5⟩
          · have hfull : q.full 0 q.s.n := fun j h1 h2 => by
              by_cases e : j = b
              · subst e; exact HFR.out
              · exact p2.out j h1 (by omega)
            have hfn : q.first < q.next := by
              by_cases e : q.first < q.next
              · exact e
              · exact (HNN.out ⟨hfull, fun j h1 h2 => absurd h1 (by show ¬ q.first ≤ j; omega)⟩).elim
            exact ⟨q.first, rfl, by omega, .inr ⟨hfull, Nat.le_refl _, hfn, fun j h1 h2 => absurd h1 (by show ¬ q.first ≤ j; omega), by omega⟩, HBL4⟩
          · omega
      · have hli : ¬ ((q.s.n : Int) ≤ (b : Int) + 1) := by omega
        go_wp2_with fail
        have hph := HPH.out
        go_roundg (gk - 1)
        case measure =>
          rcases hph with ⟨p1, p2, p3⟩ | ⟨p1, p2, p3, p4, p5⟩ <;> omega
        case rel =>
          refine ⟨b + 1, by go_num, by omega, ?_, HBL4⟩
          rcases hph with ⟨p1, p2, p3⟩ | ⟨p1, p2, p3, p4, p5⟩
          · refine .inl ⟨by omega, fun j h1 h2 => ?_, by omega⟩
            by_cases e : j = b
            · subst e; exact HFR.out
            · exact p2.out j h1 (by omega)
          · have hfull : q.full 1 (b + 1) := fun j h1 h2 => by
              by_cases e : j = b
              · subst e; exact HFR.out
              · exact p4.out j h1 (by omega)
            have hbx : b + 1 < q.next := by
              by_cases e : b + 1 < q.next
              · exact e
              · exact (HNN.out ⟨p1.out, by rw [show q.next = b + 1 by omega]; exact hfull⟩).elim
            exact .inr ⟨p1, by omega, hbx, hfull, by omega⟩
    · rw [hfr] at HF
      have HFO := Lib.hid (show q.Found b from by
        rcases HPH.out with ⟨p1, p2, p3⟩ | ⟨p1, p2, p3, p4, p5⟩
        · exact ⟨hbn, hfr, .inl ⟨p1, p2.out⟩⟩
        · exact ⟨hbn, hfr, .inr ⟨p1.out, p2, p3, p4.out⟩⟩)
      have HUP := Lib.hid (up_free hbn hfr)
      clear hfr HPH
      go_wp2_with fail
      refine HF.out.mono ?_
      rintro e w4 ⟨rfl, bz⟩
      have HA4 := Lib.hid (HA3.out.below bz)
      have HX4 := Lib.hid (HX3.out.below HX3.out.lt bz)
      have HY4 := Lib.hid (HY3.out.below HY3.out.lt bz)
      have HB4 := Lib.hid (HB3.out.trans (bz.mono HB3.out.size))
      clear bz HA3 HX3 HY3 HB3 HBL HF d0 e0 f0 d1 e1 f1 d2 e2 f2 d3 e3 f3 d4 e4 f4
      have d0 := HX4.out.cellAt (i := 0) rfl
      have d1 := HX4.out.cellAt (i := 1) rfl
      have d2 := HX4.out.cellAt (i := 2) rfl
      have d3 := HX4.out.cellAt (i := 3) rfl
      have d4 := HX4.out.cellAt (i := 4) rfl
      have e0 := HY4.out.cellAt (i := 0) rfl
      have e1 := HY4.out.cellAt (i := 1) rfl
      have e2 := HY4.out.cellAt (i := 2) rfl
      have e3 := HY4.out.cellAt (i := 3) rfl
      have e4 := HY4.out.cellAt (i := 4) rfl
      have f0 := HY4.out.free 0
      have f1 := HY4.out.free 1
      have f2 := HY4.out.free 2
      have f3 := HY4.out.free 3
      have f4 := HY4.out.free 4
      have HAD := Lib.hid (show Calls Try.prog 18 #[.agg #[.slice (some ⟨b1, 0, none⟩) q.s.n c1, .slice (some ⟨b2, 0, none⟩) q.s.n c2], .int .i64 (b : Int), .int .i64 1] w4 (fun e w' => ∃ k1 l1, e = .returned (.tuple #[.agg #[.slice (some ⟨k1, 0, none⟩) q.s.n l1, .slice (some ⟨b2, 0, none⟩) q.s.n c2], .int .i64 0]) ∧ RAt w' k1 l1 b2 c2 (q.s.put b (q.s.cnt b + 1)) ∧ Below w4.heap.size w4 w' ∧ w4.heap.size ≤ k1) by
        exact radd_up_new HA4.out b HFO.out.1 (by rw [cnt_free HFO.out.2.1]; decide))
      go_upto_region 8 with (fail)
      go_wp2_with fail
      refine HAD.out.mono ?_
      rintro e w5 ⟨k1, l1, rfl, az, bz, hk9⟩
      have HK9 := Lib.hid (Nat.le_trans HB4.out.size hk9)
      clear hk9
      have HA5 := Lib.hid az
      have HX5 := Lib.hid (HX4.out.below HX4.out.lt bz)
      have HY5 := Lib.hid (HY4.out.below HY4.out.lt bz)
      have HB5 := Lib.hid (HB4.out.trans (bz.mono HB4.out.size))
      have HKY := Lib.hid (show k1 ≠ x ∧ b2 ≠ x ∧ k1 ≠ y ∧ b2 ≠ y from by
        have h0 : 0 < (q.s.put b (q.s.cnt b + 1)).n := HA5.out.ok.lo
        have s1 := HA5.out.cnt h0
        have s2 := HA5.out.was h0
        have s3 := HX5.out.cellAt (i := 0) rfl
        have s4 := HY5.out.cellAt (i := 0) rfl
        refine ⟨?_, ?_, ?_, ?_⟩
        · rintro rfl; rw [s1] at s3; cases s3
        · rintro rfl; rw [s2] at s3; cases s3
        · rintro rfl; rw [s1] at s4; cases s4
        · rintro rfl; rw [s2] at s4; cases s4)
      clear az bz HAD HA4 HX4 HY4 HB4 d0 e0 f0 d1 e1 f1 d2 e2 f2 d3 e3 f3 d4 e4 f4
      have d0 := HX5.out.cellAt (i := 0) rfl
      have d1 := HX5.out.cellAt (i := 1) rfl
      have d2 := HX5.out.cellAt (i := 2) rfl
      have d3 := HX5.out.cellAt (i := 3) rfl
      have d4 := HX5.out.cellAt (i := 4) rfl
      have e0 := HY5.out.cellAt (i := 0) rfl
      have e1 := HY5.out.cellAt (i := 1) rfl
      have e2 := HY5.out.cellAt (i := 2) rfl
      have e3 := HY5.out.cellAt (i := 3) rfl
      have e4 := HY5.out.cellAt (i := 4) rfl
      have f0 := HY5.out.free 0
      have f1 := HY5.out.free 1
      have f2 := HY5.out.free 2
      have f3 := HY5.out.free 3
      have f4 := HY5.out.free 4
      have g0 := HX5.out.free 0
      have g1 := HX5.out.free 1
      have g3 := HX5.out.free 3
      obtain ⟨nb, hnb⟩ : ∃ nb : Nat, nb = b + 1 := ⟨_, rfl⟩
      have hb1 : (b : Int) + 1 = (nb : Int) := by omega
      have hb2 : nb ≤ 4096 := by omega
      have HNB := Lib.hid hnb
      clear hnb
      go_upto_region 9 with (fail)
      have HX6 := Lib.hid ((HX5.out.set 0 (.slice (some ⟨k1, 0, none⟩) q.s.n l1)).set 1 (.slice (some ⟨b2, 0, none⟩) q.s.n c2))
      have HY6 := Lib.hid ((HY5.out.other (q := x) (i := 0) (v := .slice (some ⟨k1, 0, none⟩) q.s.n l1) (fun e => hxy e.symm)).other (q := x) (i := 1) (v := .slice (some ⟨b2, 0, none⟩) q.s.n c2) (fun e => hxy e.symm))
      have HB6 := Lib.hid ((HB5.out.setCell (p := ⟨x, 0, none⟩) hxw (.slice (some ⟨k1, 0, none⟩) q.s.n l1)).setCell (p := ⟨x, 1, none⟩) hxw (.slice (some ⟨b2, 0, none⟩) q.s.n c2))
      have HA6 := Lib.hid (show RAt ((w5.setCell ⟨x, 0, none⟩ (.slice (some ⟨k1, 0, none⟩) q.s.n l1)).setCell ⟨x, 1, none⟩ (.slice (some ⟨b2, 0, none⟩) q.s.n c2)) k1 l1 b2 c2 (q.s.put b (q.s.cnt b + 1)) from
        ⟨(HA5.out.now.block (heap_setCell_other _ _ _ _ HKY.out.1)).block (heap_setCell_other _ _ _ _ HKY.out.1), (HA5.out.kept.block (heap_setCell_other _ _ _ _ HKY.out.2.1)).block (heap_setCell_other _ _ _ _ HKY.out.2.1), HA5.out.ok⟩)
      clear HX5 HY5 HB5 HA5 d0 e0 f0 d1 e1 f1 d2 e2 f2 d3 e3 f3 d4 e4 f4 g0 g1 g3
      generalize (w5.setCell ⟨x, 0, none⟩ (.slice (some ⟨k1, 0, none⟩) q.s.n l1)).setCell ⟨x, 1, none⟩ (.slice (some ⟨b2, 0, none⟩) q.s.n c2) = w6 at *
      have d0 := HX6.out.cellAt (i := 0) rfl
      have d1 := HX6.out.cellAt (i := 1) rfl
      have d2 := HX6.out.cellAt (i := 2) rfl
      have d3 := HX6.out.cellAt (i := 3) rfl
      have d4 := HX6.out.cellAt (i := 4) rfl
      have e0 := HY6.out.cellAt (i := 0) rfl
      have e1 := HY6.out.cellAt (i := 1) rfl
      have e2 := HY6.out.cellAt (i := 2) rfl
      have e3 := HY6.out.cellAt (i := 3) rfl
      have e4 := HY6.out.cellAt (i := 4) rfl
      have f0 := HY6.out.free 0
      have f1 := HY6.out.free 1
      have f2 := HY6.out.free 2
      have f3 := HY6.out.free 3
      have f4 := HY6.out.free 4
      have g0 := HX6.out.free 0
      have g1 := HX6.out.free 1
      have g3 := HX6.out.free 3
      go_upto_region 10 with (fail)
      have HX7 := Lib.hid (HX6.out.set 3 (.int .i64 (nb : Int)))
      have HY7 := Lib.hid (HY6.out.other (q := x) (i := 3) (v := .int .i64 (nb : Int)) (fun e => hxy e.symm))
      have HB7 := Lib.hid (HB6.out.setCell (p := ⟨x, 3, none⟩) hxw (.int .i64 (nb : Int)))
      have HA7 := Lib.hid (RAt.off HA6.out HKY.out.1 HKY.out.2.1 3 (.int .i64 (nb : Int)))
      clear HX6 HY6 HB6 HA6 d0 e0 f0 d1 e1 f1 d2 e2 f2 d3 e3 f3 d4 e4 f4 g0 g1 g3
      generalize w6.setCell ⟨x, 3, none⟩ (.int .i64 (nb : Int)) = w7 at *
      have d0 := HX7.out.cellAt (i := 0) rfl
      have d1 := HX7.out.cellAt (i := 1) rfl
      have d2 := HX7.out.cellAt (i := 2) rfl
      have d3 := HX7.out.cellAt (i := 3) rfl
      have d4 := HX7.out.cellAt (i := 4) rfl
      have e0 := HY7.out.cellAt (i := 0) rfl
      have e1 := HY7.out.cellAt (i := 1) rfl
      have e2 := HY7.out.cellAt (i := 2) rfl
      have e3 := HY7.out.cellAt (i := 3) rfl
      have e4 := HY7.out.cellAt (i := 4) rfl
      have f0 := HY7.out.free 0
      have f1 := HY7.out.free 1
      have f2 := HY7.out.free 2
      have f3 := HY7.out.free 3
      have f4 := HY7.out.free 4
      have g3 := HX7.out.free 3
      by_cases hlast : nb = q.s.n
      · have hli : (nb : Int) = (q.s.n : Int) := by omega
        have HT := Lib.hid (show q.took b = ⟨q.s.put b (q.s.cnt b + 1), q.first, q.first, q.asked⟩ from by unfold Q.took; rw [if_pos (by have := HNB.out; omega)])
        clear hlast
        go_upto_region 12 with (fail)
        have HX8 := Lib.hid (HX7.out.set 3 (.int .i64 (q.first : Int)))
        have HY8 := Lib.hid (HY7.out.other (q := x) (i := 3) (v := .int .i64 (q.first : Int)) (fun e => hxy e.symm))
        have HB8 := Lib.hid (HB7.out.setCell (p := ⟨x, 3, none⟩) hxw (.int .i64 (q.first : Int)))
        have HA8 := Lib.hid (RAt.off HA7.out HKY.out.1 HKY.out.2.1 3 (.int .i64 (q.first : Int)))
        clear HX7 HY7 HB7 HA7 d0 e0 f0 d1 e1 f1 d2 e2 f2 d3 e3 f3 d4 e4 f4 g3
        generalize w7.setCell ⟨x, 3, none⟩ (.int .i64 (q.first : Int)) = w8 at *
        have d0 := HX8.out.cellAt (i := 0) rfl
        have d1 := HX8.out.cellAt (i := 1) rfl
        have d2 := HX8.out.cellAt (i := 2) rfl
        have d3 := HX8.out.cellAt (i := 3) rfl
        have d4 := HX8.out.cellAt (i := 4) rfl
        have e0 := HY8.out.cellAt (i := 0) rfl
        have e1 := HY8.out.cellAt (i := 1) rfl
        have e2 := HY8.out.cellAt (i := 2) rfl
        have e3 := HY8.out.cellAt (i := 3) rfl
        have e4 := HY8.out.cellAt (i := 4) rfl
        have f0 := HY8.out.free 0
        have f1 := HY8.out.free 1
        have f2 := HY8.out.free 2
        have f3 := HY8.out.free 3
        have f4 := HY8.out.free 4
        have HV := Lib.hid (show rpv (q.took b) k1 l1 b2 c2 = .agg #[.slice (some ⟨k1, 0, none⟩) q.s.n l1, .slice (some ⟨b2, 0, none⟩) q.s.n c2, .int .i64 (q.first : Int), .int .i64 (q.first : Int), .int .i64 (q.asked : Int)] from by unfold rpv; rw [HT.out]; show Value.agg #[.slice (some ⟨k1, 0, none⟩) (q.s.put b (q.s.cnt b + 1)).n l1, .slice (some ⟨b2, 0, none⟩) (q.s.put b (q.s.cnt b + 1)).n c2, _, _, _] = _; rw [n_put])
        have HRS := Lib.hid (((((HY8.out.set 0 (.slice (some ⟨k1, 0, none⟩) q.s.n l1)).set 1 (.slice (some ⟨b2, 0, none⟩) q.s.n c2)).set 2 (.int .i64 (q.first : Int))).set 3 (.int .i64 (q.first : Int))).set 4 (.int .i64 (q.asked : Int)))
        have HWS := Lib.hid (((((HB8.out.setCell (p := ⟨y, 0, none⟩) hyw (.slice (some ⟨k1, 0, none⟩) q.s.n l1)).setCell (p := ⟨y, 1, none⟩) hyw (.slice (some ⟨b2, 0, none⟩) q.s.n c2)).setCell (p := ⟨y, 2, none⟩) hyw (.int .i64 (q.first : Int))).setCell (p := ⟨y, 3, none⟩) hyw (.int .i64 (q.first : Int))).setCell (p := ⟨y, 4, none⟩) hyw (.int .i64 (q.asked : Int)))
        go_wp2_with fail
        refine bodyPost_ret (v := .tuple #[.agg #[.slice (some ⟨k1, 0, none⟩) q.s.n l1, .slice (some ⟨b2, 0, none⟩) q.s.n c2, .int .i64 (q.first : Int), .int .i64 (q.first : Int), .int .i64 (q.asked : Int)], .int .i64 (b : Int), .int .i64 0]) ?_ rfl (⟨b, k1, l1, congrArg (fun z => Ending.returned (.tuple #[z, .int .i64 (b : Int), .int .i64 0])) HV.out.symm, HFO.out, (RAt.off (RAt.off (RAt.off (RAt.off (RAt.off (HA8.out) HKY.out.2.2.1 HKY.out.2.2.2 0 (.slice (some ⟨k1, 0, none⟩) q.s.n l1)) HKY.out.2.2.1 HKY.out.2.2.2 1 (.slice (some ⟨b2, 0, none⟩) q.s.n c2)) HKY.out.2.2.1 HKY.out.2.2.2 2 (.int .i64 (q.first : Int))) HKY.out.2.2.1 HKY.out.2.2.2 3 (.int .i64 (q.first : Int))) HKY.out.2.2.1 HKY.out.2.2.2 4 (.int .i64 (q.asked : Int))), HWS.out, HK9.out⟩)
        clear d0 e0 f0 d1 e1 f1 d2 e2 f2 d3 e3 f3 d4 e4 f4
        generalize (((((w8.setCell ⟨y, 0, none⟩ (.slice (some ⟨k1, 0, none⟩) q.s.n l1)).setCell ⟨y, 1, none⟩ (.slice (some ⟨b2, 0, none⟩) q.s.n c2)).setCell ⟨y, 2, none⟩ (.int .i64 (q.first : Int))).setCell ⟨y, 3, none⟩ (.int .i64 (q.first : Int))).setCell ⟨y, 4, none⟩ (.int .i64 (q.asked : Int))) = wv at *
        have d0 := HRS.out.cellAt (i := 0) rfl
        have d1 := HRS.out.cellAt (i := 1) rfl
        have d2 := HRS.out.cellAt (i := 2) rfl
        have d3 := HRS.out.cellAt (i := 3) rfl
        have d4 := HRS.out.cellAt (i := 4) rfl
        rw [results_cell_three rfl]
        try unfold rpv
        go_simp
      · have hli : ¬ ((nb : Int) = (q.s.n : Int)) := by omega
        have HT := Lib.hid (show q.took b = ⟨q.s.put b (q.s.cnt b + 1), q.first, nb, q.asked⟩ from by unfold Q.took; rw [if_neg (by have := HNB.out; omega), HNB.out])
        clear hlast
        have HV := Lib.hid (show rpv (q.took b) k1 l1 b2 c2 = .agg #[.slice (some ⟨k1, 0, none⟩) q.s.n l1, .slice (some ⟨b2, 0, none⟩) q.s.n c2, .int .i64 (q.first : Int), .int .i64 (nb : Int), .int .i64 (q.asked : Int)] from by unfold rpv; rw [HT.out]; show Value.agg #[.slice (some ⟨k1, 0, none⟩) (q.s.put b (q.s.cnt b + 1)).n l1, .slice (some ⟨b2, 0, none⟩) (q.s.put b (q.s.cnt b + 1)).n c2, _, _, _] = _; rw [n_put])
        have HRS := Lib.hid (((((HY7.out.set 0 (.slice (some ⟨k1, 0, none⟩) q.s.n l1)).set 1 (.slice (some ⟨b2, 0, none⟩) q.s.n c2)).set 2 (.int .i64 (q.first : Int))).set 3 (.int .i64 (nb : Int))).set 4 (.int .i64 (q.asked : Int)))
        have HWS := Lib.hid (((((HB7.out.setCell (p := ⟨y, 0, none⟩) hyw (.slice (some ⟨k1, 0, none⟩) q.s.n l1)).setCell (p := ⟨y, 1, none⟩) hyw (.slice (some ⟨b2, 0, none⟩) q.s.n c2)).setCell (p := ⟨y, 2, none⟩) hyw (.int .i64 (q.first : Int))).setCell (p := ⟨y, 3, none⟩) hyw (.int .i64 (nb : Int))).setCell (p := ⟨y, 4, none⟩) hyw (.int .i64 (q.asked : Int)))
        go_wp2_with fail
        refine bodyPost_ret (v := .tuple #[.agg #[.slice (some ⟨k1, 0, none⟩) q.s.n l1, .slice (some ⟨b2, 0, none⟩) q.s.n c2, .int .i64 (q.first : Int), .int .i64 (nb : Int), .int .i64 (q.asked : Int)], .int .i64 (b : Int), .int .i64 0]) ?_ rfl (⟨b, k1, l1, congrArg (fun z => Ending.returned (.tuple #[z, .int .i64 (b : Int), .int .i64 0])) HV.out.symm, HFO.out, (RAt.off (RAt.off (RAt.off (RAt.off (RAt.off (HA7.out) HKY.out.2.2.1 HKY.out.2.2.2 0 (.slice (some ⟨k1, 0, none⟩) q.s.n l1)) HKY.out.2.2.1 HKY.out.2.2.2 1 (.slice (some ⟨b2, 0, none⟩) q.s.n c2)) HKY.out.2.2.1 HKY.out.2.2.2 2 (.int .i64 (q.first : Int))) HKY.out.2.2.1 HKY.out.2.2.2 3 (.int .i64 (nb : Int))) HKY.out.2.2.1 HKY.out.2.2.2 4 (.int .i64 (q.asked : Int))), HWS.out, HK9.out⟩)
        clear d0 e0 f0 d1 e1 f1 d2 e2 f2 d3 e3 f3 d4 e4 f4 g3
        generalize (((((w7.setCell ⟨y, 0, none⟩ (.slice (some ⟨k1, 0, none⟩) q.s.n l1)).setCell ⟨y, 1, none⟩ (.slice (some ⟨b2, 0, none⟩) q.s.n c2)).setCell ⟨y, 2, none⟩ (.int .i64 (q.first : Int))).setCell ⟨y, 3, none⟩ (.int .i64 (nb : Int))).setCell ⟨y, 4, none⟩ (.int .i64 (q.asked : Int))) = wv at *
        have d0 := HRS.out.cellAt (i := 0) rfl
        have d1 := HRS.out.cellAt (i := 1) rfl
        have d2 := HRS.out.cellAt (i := 2) rfl
        have d3 := HRS.out.cellAt (i := 3) rfl
        have d4 := HRS.out.cellAt (i := 4) rfl
        rw [results_cell_three rfl]
        try unfold rpv
        go_simp
end Go.Proofs.Ytlemjegngnfanaa.Pk

/- The reference's place: pages, Need, twice. -/
namespace Go.Proofs.Ytlemjegngnfanaa.Pl
open Go.RowKit Go.Proofs.Ytlemjegngnfanaa.Oct Go.Proofs.Ytlemjegngnfanaa.Mv Go.Proofs.Ytlemjegngnfanaa.Tl Go.Proofs.Ytlemjegngnfanaa.Pk Go.Maps
set_option linter.unusedVariables false

theorem rpages_eq (n : Nat) (h : n ≤ 9000) (w : World) :
    Calls Try.prog 38 #[.int .i64 (n : Int)] w fun e w' => e = .returned (.int .i64 (pg n : Int)) ∧ w = w' := by
  have ht : ((n : Int) + 60).tdiv 61 = (pg n : Int) := by rw [Int.tdiv_eq_ediv_of_nonneg (by omega)]; unfold pg; omega
  have hd : ((n : Int) + 60) / 61 = (pg n : Int) := by unfold pg; omega
  go_enter Try.func38, Try.ntmps38
  go_wp2_with fail
  go_ret
  exact ⟨by first | rfl | rw [hd] | rw [ht], rfl⟩
theorem rneed_eq (n : Nat) (h1 : 1 ≤ n) (h : n ≤ 4096) (w : World) :
    Calls Try.prog 13 #[.int .i64 (n : Int)] w fun e w' => e = .returned (.int .i64 (need n : Int)) ∧ w = w' := by
  have hp : pg n ≤ 4096 := by unfold pg; omega
  have hpp : pg (pg n) ≤ 4096 := by unfold pg at *; omega
  have e1 : (pg n : Int) + (pg (pg n) : Int) = (need n : Int) := by unfold need; omega
  have hn : ¬ (n : Int) < 1 := by omega
  go_enter Try.func13, Try.ntmps13
  go_wp2_with fail
  refine (rpages_eq n (by omega) _).mono ?_
  rintro e w' ⟨rfl, rfl⟩
  go_wp2_with fail
  refine (rpages_eq n (by omega) _).mono ?_
  rintro e w' ⟨rfl, rfl⟩
  go_wp2_with fail
  refine (rpages_eq (pg n) (by omega) _).mono ?_
  rintro e w' ⟨rfl, rfl⟩
  go_wp2_with fail
  go_ret
  exact ⟨by first | rfl | rw [e1], rfl⟩

/-- A test's answer. -/
def Bo (R : Prop) (w : World) (e : Ending) (w' : World) : Prop := ∃ r : Bool, e = .returned (.bool r) ∧ (r = true ↔ R) ∧ Below w.heap.size w w'
theorem Bo.yes {R : Prop} {w w' : World} (h : R) (b : Below w.heap.size w w') : Bo R w (.returned (.bool true)) w' := ⟨true, rfl, ⟨fun _ => h, fun _ => rfl⟩, b⟩
theorem Bo.no {R : Prop} {w w' : World} (h : ¬ R) (b : Below w.heap.size w w') : Bo R w (.returned (.bool false)) w' := ⟨false, rfl, ⟨fun e => (by cases e), fun k => absurd k h⟩, b⟩
/-- A block but 0 is there twice. -/
def twiceP (L : List Nat) : Prop := ∃ i k, i < L.length ∧ k < i ∧ L.getD i 0 ≠ 0 ∧ L.getD i 0 = L.getD k 0
theorem drewN_below (w : World) (n : Nat) (B : Nat) : Below B w (w.drewN n) := (show Still w (w.drewN n) from ⟨rfl, rfl, rfl, rfl⟩).below B
set_option maxRecDepth 100000 in
set_option maxHeartbeats 2000000 in
theorem rtwice_any {w : World} {A : Option Addr} {c : Nat} {L : List Nat} (h : ToldV w A (ints L)) (hl : L.length ≤ 4096) :
    Calls Try.prog 60 #[.slice A L.length c] w (Bo (twiceP L) w) := by
  have H := Lib.hid h
  clear h
  go_enter Try.func60, Try.ntmps60
  go_wp2_with fail
  go_loopw [3] (fun i wr => ∃ k : Nat, k ≤ L.length ∧ i = .int .i64 (k : Int) ∧ Hid (∀ i' k', i' < k → k' < i' → L.getD i' 0 ≠ 0 → L.getD i' 0 = L.getD k' 0 → False) ∧ Hid (Below w.heap.size w wr)) (fun i _ => L.length - (Go.RowKit.intOf i).toNat)
  case atStart => exact ⟨0, Nat.zero_le _, rfl, Lib.hid (fun i' k' h => by omega), Lib.hid (Below.refl _ _)⟩
  case round =>
    obtain ⟨k, hk, rfl, HN, HB⟩ := hrel
    by_cases hlt : k < L.length
    · have hki : (k : Int) < (L.length : Int) := by omega
      go_wp2_with fail
      go_loopw [4] (fun j ws => ∃ m : Nat, m ≤ k ∧ j = .int .i64 (m : Int) ∧ Hid (∀ k', k' < m → L.getD k 0 ≠ 0 → L.getD k 0 = L.getD k' 0 → False) ∧ Hid (Below w.heap.size w ws)) (fun j _ => k - (Go.RowKit.intOf j).toNat)
      case atStart => exact ⟨0, Nat.zero_le _, rfl, Lib.hid (fun k' h => by omega), HB⟩
      case round =>
        obtain ⟨m, hm, rfl, HM, HB2⟩ := hrel
        by_cases hmk : m < k
        · have hmi : (m : Int) < (k : Int) := by omega
          have hmi2 : (m : Int) < (L.length : Int) := by omega
          obtain ⟨b, o, hA, _, ck⟩ := told_nat (H.out.below HB2.out) hlt
          obtain ⟨b2, o2, hA2, _, cm⟩ := told_nat (H.out.below HB2.out) (show m < L.length by omega)
          rw [hA] at hA2
          simp only [Option.some.injEq, Addr.mk.injEq, and_true] at hA2
          obtain ⟨rfl, rfl⟩ := hA2
          subst hA
          obtain ⟨x, hx⟩ : ∃ x, x = L.getD k 0 := ⟨_, rfl⟩
          obtain ⟨y, hy⟩ : ∃ y, y = L.getD m 0 := ⟨_, rfl⟩
          rw [← hx] at ck
          rw [← hy] at cm
          have HX := Lib.hid (And.intro hx hy)
          clear hx hy
          by_cases h0 : x = 0
          · subst h0
            go_upto_region 7 with (fail)
            go_quiet (fail)
            go_wp2_with fail
            go_roundw
            case rel =>
              refine ⟨m + 1, by omega, by go_num, Lib.hid (fun k' h1 h2 h3 => h2 HX.out.1.symm), Lib.hid (HB2.out.trans (drewN_below _ _ _))⟩
            case measure => simp [Go.RowKit.intOf]; omega
          · have hx0 : ((x : Int) != 0) = true := by simp; omega
            by_cases hxy : x = y
            · subst hxy
              have hxx : ((x : Int) == (x : Int)) = true := by simp
              clear h0
              go_upto_region 7 with (fail)
              go_quiet (fail)
              go_wp2_with fail
              go_ret
              exact Bo.yes ⟨k, m, hlt, hmk, (by rw [← HX.out.1]; intro e; subst e; simp at hx0), (by rw [← HX.out.1, ← HX.out.2])⟩ (HB2.out.trans (drewN_below _ _ _))
            · have hxx : ((x : Int) == (y : Int)) = false := beq_eq_false_iff_ne.2 (by omega)
              have HXY := Lib.hid hxy
              clear h0 hxy
              go_upto_region 7 with (fail)
              go_quiet (fail)
              go_wp2_with fail
              go_roundw
              case rel =>
                refine ⟨m + 1, by omega, by go_num, Lib.hid (fun k' h1 h2 h3 => ?_), Lib.hid (HB2.out.trans (drewN_below _ _ _))⟩
                rcases Nat.lt_or_ge k' m with h4 | h4
                · exact HM.out k' h4 h2 h3
                · obtain rfl : k' = m := by omega
                  exact HXY.out (by rw [HX.out.1, HX.out.2, h3])
              case measure => simp [Go.RowKit.intOf]; omega
        · have hmi : ¬ (m : Int) < (k : Int) := by omega
          obtain rfl : m = k := by omega
          go_wp2_with fail
          go_roundw
          case rel =>
            refine ⟨m + 1, by omega, by go_num, Lib.hid (fun i' k' h1 h2 h3 h4 => ?_), HB2⟩
            rcases Nat.lt_or_ge i' m with h5 | h5
            · exact HN.out i' k' h5 h2 h3 h4
            · obtain rfl : i' = m := by omega
              exact HM.out k' h2 h3 h4
          case measure => simp [Go.RowKit.intOf]; omega
    · have hki : ¬ (k : Int) < (L.length : Int) := by omega
      obtain rfl : k = L.length := by omega
      go_wp2_with fail
      go_ret
      refine Bo.no (fun hh => ?_) HB.out
      obtain ⟨i, k', h1, h2, h3, h4⟩ := hh
      exact HN.out i k' h1 h2 h3 h4
end Go.Proofs.Ytlemjegngnfanaa.Pl

/- The reference's place: changed, tells. (Written by bin/gen_plrb.py.) -/
namespace Go.Proofs.Ytlemjegngnfanaa.Pl
open Go.RowKit Go.Proofs.Ytlemjegngnfanaa.Oct Go.Proofs.Ytlemjegngnfanaa.Mv Go.Proofs.Ytlemjegngnfanaa.Tl Go.Proofs.Ytlemjegngnfanaa.Pk Go.Maps
set_option linter.unusedVariables false

theorem moved_of {s : St} {i : Nat} (h : s.cnt i ≠ s.was i) : s.moved i = true := by simp [St.moved, h]
theorem of_moved {s : St} {i : Nat} (h : s.moved i = true) (e : s.cnt i = s.was i) : False := by simp [St.moved, e] at h
set_option maxRecDepth 100000 in
set_option maxHeartbeats 2000000 in
theorem rchanged_any {w : World} {b1 c1 b2 c2 n : Nat} {q : Q} (h : RAt w b1 c1 b2 c2 q.s) (hn : q.s.n = n) (A5 A6 A7 A8 : Option Addr) (n5 n6 n7 n8 c5 c6 c7 c8 : Nat) (p : Nat) (hp : p ≤ 4096) :
    Calls Try.prog 61 #[.agg #[.slice (some ⟨b1, 0, none⟩) n c1, .slice (some ⟨b2, 0, none⟩) n c2, .int .i64 (q.first : Int), .int .i64 (q.next : Int), .int .i64 (q.asked : Int), .slice A5 n5 c5, .slice A6 n6 c6, .slice A7 n7 c7, .slice A8 n8 c8], .int .i64 (p : Int)] w (Bo (onP q.s.changed (p : Int)) w) := by
  have B1 := box_below w (.cells #[.slice (some ⟨b1, 0, none⟩) n c1, .slice (some ⟨b2, 0, none⟩) n c2, .int .i64 (q.first : Int), .int .i64 (q.next : Int), .int .i64 (q.asked : Int), .slice A5 n5 c5, .slice A6 n6 c6, .slice A7 n7 c7, .slice A8 n8 c8] 57)
  have R1 := alloc_rowV w 57 [.slice (some ⟨b1, 0, none⟩) n c1, .slice (some ⟨b2, 0, none⟩) n c2, .int .i64 (q.first : Int), .int .i64 (q.next : Int), .int .i64 (q.asked : Int), .slice A5 n5 c5, .slice A6 n6 c6, .slice A7 n7 c7, .slice A8 n8 c8]
  have H := Lib.hid (h.below B1)
  have HB := Lib.hid B1
  have HR := Lib.hid R1
  have hlo : 0 < q.s.n := h.ok.lo
  have hhi : q.s.n ≤ 4096 := h.ok.hi
  rw [hn] at hlo hhi
  have HN := Lib.hid hn
  clear h B1 R1 hn
  have hm1 : (p : Int) * 61 = ((p * 61 : Nat) : Int) := by omega
  have hm2 : (61 : Int) * (p : Int) = ((p * 61 : Nat) : Int) := by omega
  obtain ⟨f, hf⟩ : ∃ f : Nat, f = p * 61 := ⟨_, rfl⟩
  rw [← hf] at hm1 hm2
  obtain ⟨g, hg⟩ : ∃ g : Nat, g = f + 61 := ⟨_, rfl⟩
  have hm3 : (f : Int) + 61 = (g : Int) := by omega
  have HF := Lib.hid (And.intro hf hg)
  clear hf hg
  go_enter Try.func61, Try.ntmps61
  go_upto_region 1 with (fail)
  generalize w.alloc (.cells #[.slice (some ⟨b1, 0, none⟩) n c1, .slice (some ⟨b2, 0, none⟩) n c2, .int .i64 (q.first : Int), .int .i64 (q.next : Int), .int .i64 (q.asked : Int), .slice A5 n5 c5, .slice A6 n6 c6, .slice A7 n7 c7, .slice A8 n8 c8] 57) = w1 at *
  obtain ⟨x, hx⟩ : ∃ x, x = w.heap.size := ⟨_, rfl⟩
  rw [← hx] at HR ⊢
  clear hx
  go_wp2_with fail
  go_loopw [5] (fun i wr => ∃ k : Nat, k ≤ 61 ∧ i = .int .i64 ((f + k : Nat) : Int) ∧ Hid (∀ j, j < k → f + j < n → q.s.cnt (f + j) = q.s.was (f + j)) ∧ Hid (Below w1.heap.size w1 wr)) (fun i _ => g - (Go.RowKit.intOf i).toNat)
  case atStart => exact ⟨0, by omega, by go_num, Lib.hid (fun j h => by omega), Lib.hid (Below.refl _ _)⟩
  case round =>
    obtain ⟨k, hk, rfl, HE, HB2⟩ := hrel
    have HR2 := Lib.hid (HR.out.below HR.out.lt HB2.out)
    have H2 := Lib.hid (H.out.below HB2.out)
    have d0 := HR2.out.cellAt (i := 0) rfl
    have d1 := HR2.out.cellAt (i := 1) rfl
    obtain ⟨v, hv⟩ : ∃ v : Nat, v = f + k := ⟨_, rfl⟩
    rw [← hv]
    by_cases hk61 : k < 61
    · have hki : (v : Int) < (g : Int) := by have := HF.out; omega
      by_cases hlt : v < n
      · have hvi : (v : Int) < (n : Int) := by omega
        have e1 := H2.out.cnt (i := v) (by rw [HN.out]; exact hlt)
        have e2 := H2.out.was (i := v) (by rw [HN.out]; exact hlt)
        obtain ⟨m1, hm1'⟩ : ∃ m, m = (q.s.cnt v).toNat := ⟨_, rfl⟩
        obtain ⟨m2, hm2'⟩ : ∃ m, m = (q.s.was v).toNat := ⟨_, rfl⟩
        rw [← hm1'] at e1
        rw [← hm2'] at e2
        have HM := Lib.hid (And.intro hm1' (And.intro hm2' hv))
        clear hm1' hm2' hv
        by_cases hmm : m1 = m2
        · subst hmm
          have hmb : ((m1 : Int) != (m1 : Int)) = false := by simp
          go_upto_region 4 with (fail)
          go_quiet (fail)
          go_wp2_with fail
          go_roundw
          case rel =>
            refine ⟨k + 1, by omega, by rw [HM.out.2.2]; go_num, Lib.hid (fun j h1 h2 => ?_), Lib.hid (HB2.out.trans (drewN_below _ _ _))⟩
            rcases Nat.lt_or_ge j k with h4 | h4
            · exact HE.out j h4 h2
            · obtain rfl : j = k := by omega
              rw [← HM.out.2.2]
              exact UInt16.toNat_inj.1 (HM.out.1.symm.trans HM.out.2.1)
          case measure => have := HF.out; simp [Go.RowKit.intOf]; omega
        · have hmb : ((m1 : Int) != (m2 : Int)) = true := by simp; omega
          have HNE := Lib.hid hmm
          clear hmm
          go_upto_region 4 with (fail)
          go_quiet (fail)
          go_wp2_with fail
          go_ret
          exact Bo.yes ⟨v, mem_changed.2 ⟨(by rw [HN.out]; exact hlt), moved_of (fun e => HNE.out (by rw [HM.out.1, HM.out.2.1, e]))⟩, (by rw [HM.out.2.2, HF.out.1]; omega)⟩ ((HB.out.trans (HB2.out.mono HB.out.size)).trans (drewN_below _ _ _))
      · have hvi : ¬ (v : Int) < (n : Int) := by omega
        go_wp2_with fail
        go_ret
        refine Bo.no (fun hh => ?_) (HB.out.trans (HB2.out.mono HB.out.size))
        obtain ⟨m, hm, e⟩ := hh
        have hf := HF.out
        obtain ⟨h1, h2⟩ := mem_changed.1 hm
        rw [HN.out] at h1
        exact absurd (HE.out (m - f) (by omega) (by omega)) (fun e2 => of_moved h2 (by rwa [show f + (m - f) = m by omega] at e2))
    · have hki : ¬ (v : Int) < (g : Int) := by have := HF.out; omega
      go_wp2_with fail
      go_ret
      refine Bo.no (fun hh => ?_) (HB.out.trans (HB2.out.mono HB.out.size))
      obtain ⟨m, hm, e⟩ := hh
      have hf := HF.out
      obtain ⟨h1, h2⟩ := mem_changed.1 hm
      rw [HN.out] at h1
      exact absurd (HE.out (m - f) (by omega) (by omega)) (fun e2 => of_moved h2 (by rwa [show f + (m - f) = m by omega] at e2))

theorem told_bools {w : World} {h1 : Nat} {f : List Bool} {sp : List Value} (h : RowV w h1 4 (bools f ++ sp)) {i : Nat} (hi : i < f.length) : w.cell? ⟨h1, i, none⟩ = some (.bool (f.getD i false)) := row_bool h hi
set_option maxRecDepth 100000 in
set_option maxHeartbeats 2000000 in
theorem rtells_any {w : World} {b1 c1 b2 c2 n : Nat} {q : Q} {h1 : Nat} {fs : List Bool} {sp : List Value} (h : RowV w h1 4 (bools fs ++ sp)) (hl : fs.length ≤ 4096)  (A5 A6 A8 : Option Addr) (n5 n6 n8 c5 c6 c7 c8 : Nat) (p : Nat) (hp : p ≤ 4096) :
    Calls Try.prog 63 #[.agg #[.slice (some ⟨b1, 0, none⟩) n c1, .slice (some ⟨b2, 0, none⟩) n c2, .int .i64 (q.first : Int), .int .i64 (q.next : Int), .int .i64 (q.asked : Int), .slice A5 n5 c5, .slice A6 n6 c6, .slice (some ⟨h1, 0, none⟩) fs.length c7, .slice A8 n8 c8], .int .i64 (p : Int)] w (Bo (onP (doneL fs) (p : Int)) w) := by
  have B1 := box_below w (.cells #[.slice (some ⟨b1, 0, none⟩) n c1, .slice (some ⟨b2, 0, none⟩) n c2, .int .i64 (q.first : Int), .int .i64 (q.next : Int), .int .i64 (q.asked : Int), .slice A5 n5 c5, .slice A6 n6 c6, .slice (some ⟨h1, 0, none⟩) fs.length c7, .slice A8 n8 c8] 57)
  have R1 := alloc_rowV w 57 [.slice (some ⟨b1, 0, none⟩) n c1, .slice (some ⟨b2, 0, none⟩) n c2, .int .i64 (q.first : Int), .int .i64 (q.next : Int), .int .i64 (q.asked : Int), .slice A5 n5 c5, .slice A6 n6 c6, .slice (some ⟨h1, 0, none⟩) fs.length c7, .slice A8 n8 c8]
  have H := Lib.hid (h.below h.lt B1)
  have HB := Lib.hid B1
  have HR := Lib.hid R1
  clear h B1 R1
  have hm1 : (p : Int) * 61 = ((p * 61 : Nat) : Int) := by omega
  have hm2 : (61 : Int) * (p : Int) = ((p * 61 : Nat) : Int) := by omega
  obtain ⟨f, hf⟩ : ∃ f : Nat, f = p * 61 := ⟨_, rfl⟩
  rw [← hf] at hm1 hm2
  obtain ⟨g, hg⟩ : ∃ g : Nat, g = f + 61 := ⟨_, rfl⟩
  have hm3 : (f : Int) + 61 = (g : Int) := by omega
  have HF := Lib.hid (And.intro hf hg)
  clear hf hg
  go_enter Try.func63, Try.ntmps63
  go_upto_region 1 with (fail)
  generalize w.alloc (.cells #[.slice (some ⟨b1, 0, none⟩) n c1, .slice (some ⟨b2, 0, none⟩) n c2, .int .i64 (q.first : Int), .int .i64 (q.next : Int), .int .i64 (q.asked : Int), .slice A5 n5 c5, .slice A6 n6 c6, .slice (some ⟨h1, 0, none⟩) fs.length c7, .slice A8 n8 c8] 57) = w1 at *
  obtain ⟨x, hx⟩ : ∃ x, x = w.heap.size := ⟨_, rfl⟩
  rw [← hx] at HR ⊢
  clear hx
  have d2 := HR.out.cellAt (i := 7) rfl
  go_wp2_with fail
  go_loopw [5] (fun i wr => (∃ k : Nat, k ≤ 61 ∧ i = .int .i64 ((f + k : Nat) : Int) ∧ Hid (∀ j, j < k → fs.getD (f + j) false = false)) ∧ wr = w1) (fun i _ => g - (Go.RowKit.intOf i).toNat)
  case atStart => exact ⟨⟨0, by omega, by go_num, Lib.hid (fun j h => by omega)⟩, rfl⟩
  case round =>
    obtain ⟨⟨k, hk, rfl, HE⟩, hwr⟩ := hrel
    subst hwr
    obtain ⟨v, hv⟩ : ∃ v : Nat, v = f + k := ⟨_, rfl⟩
    rw [← hv]
    by_cases hk61 : k < 61
    · have hki : (v : Int) < (g : Int) := by have := HF.out; omega
      by_cases hlt : v < fs.length
      · have hvi : (v : Int) < (fs.length : Int) := by omega
        have e1 := told_bools H.out hlt
        have HV := Lib.hid hv
        clear hv
        cases hb : fs.getD v false
        · rw [hb] at e1
          go_wp2_with fail
          go_roundw
          case rel =>
            refine ⟨⟨k + 1, by omega, by rw [HV.out]; go_num, Lib.hid (fun j h1 => ?_)⟩, trivial⟩
            rcases Nat.lt_or_ge j k with h4 | h4
            · exact HE.out j h4
            · obtain rfl : j = k := by omega
              rw [← HV.out]
              exact hb
          case measure => have := HF.out; simp [Go.RowKit.intOf]; omega
        · rw [hb] at e1
          go_wp2_with fail
          go_ret
          exact Bo.yes ⟨v, mem_done.2 hb, (by rw [HV.out, HF.out.1]; omega)⟩ HB.out
      · have hvi : ¬ (v : Int) < (fs.length : Int) := by omega
        go_wp2_with fail
        go_ret
        refine Bo.no (fun hh => ?_) (HB.out)
        obtain ⟨m, hm, e⟩ := hh
        have hf := HF.out
        have h2 := mem_done.1 hm
        have h1 := mem_done_lt hm
        have h3 := HE.out (m - f) (by omega)
        rw [show f + (m - f) = m by omega, h2] at h3
        cases h3
    · have hki : ¬ (v : Int) < (g : Int) := by have := HF.out; omega
      go_wp2_with fail
      go_ret
      refine Bo.no (fun hh => ?_) (HB.out)
      obtain ⟨m, hm, e⟩ := hh
      have hf := HF.out
      have h2 := mem_done.1 hm
      have h3 := HE.out (m - f) (by omega)
      rw [show f + (m - f) = m by omega, h2] at h3
      cases h3
theorem rtells_is {w : World} {b1 c1 b2 c2 n : Nat} {q : Q} {h1 : Nat} {fs : List Bool} {sp : List Value} {n7 : Nat} (h : RowV w h1 4 (bools fs ++ sp)) (hl : n7 ≤ 4096) (hn7 : fs.length = n7) (A5 A6 A8 : Option Addr) (n5 n6 n8 c5 c6 c7 c8 : Nat) (p : Nat) (hp : p ≤ 4096) :
    Calls Try.prog 63 #[.agg #[.slice (some ⟨b1, 0, none⟩) n c1, .slice (some ⟨b2, 0, none⟩) n c2, .int .i64 (q.first : Int), .int .i64 (q.next : Int), .int .i64 (q.asked : Int), .slice A5 n5 c5, .slice A6 n6 c6, .slice (some ⟨h1, 0, none⟩) n7 c7, .slice A8 n8 c8], .int .i64 (p : Int)] w (Bo (onP (doneL fs) (p : Int)) w) := by
  subst hn7
  exact rtells_any h hl A5 A6 A8 n5 n6 n8 c5 c6 c7 c8 p hp
end Go.Proofs.Ytlemjegngnfanaa.Pl

/- The reference's place: Right. (Written by bin/gen_plrc.py.) -/
namespace Go.Proofs.Ytlemjegngnfanaa.Pl
open Go.RowKit Go.Proofs.Ytlemjegngnfanaa.Oct Go.Proofs.Ytlemjegngnfanaa.Mv Go.Proofs.Ytlemjegngnfanaa.Tl Go.Proofs.Ytlemjegngnfanaa.Pk Go.Maps
set_option linter.unusedVariables false

/-- A page may stand there, but for others. -/
def okB (s : St) (b : Nat) : Prop := b = 0 ∨ (b < s.n ∧ s.cnt b ≠ 0)
theorem right_iff {s : St} {l1 l2 : List Nat} (h1 : l1.length = pg s.n) (h2 : l2.length = pg (pg s.n)) : RightS s (toI l1) (toI l2) ↔ (¬ twiceP (l1 ++ l2) ∧ ∀ i, i < (l1 ++ l2).length → okB s ((l1 ++ l2).getD i 0)) := by
  unfold RightS
  rw [toI_app, length_toI, length_toI, length_toI]
  constructor
  · rintro ⟨_, _, h⟩
    refine ⟨?_, fun i hi => ?_⟩
    · rintro ⟨i, k, hi, hk, h0, he⟩
      rcases h i hi with e | ⟨e, _⟩
      · rw [toI_get] at e
        exact h0 (by omega)
      · refine e k hk ?_
        rw [toI_get, toI_get, he]
    · rcases h i hi with e | ⟨_, e⟩
      · rw [toI_get] at e
        exact .inl (by omega)
      · rw [toI_get] at e
        exact .inr (getZ_ne e)
  · rintro ⟨ht, h⟩
    refine ⟨h1, h2, fun i hi => ?_⟩
    unfold okAt
    rw [toI_get]
    rcases h i hi with e | ⟨e1, e2⟩
    · exact .inl (by rw [e]; rfl)
    · by_cases h0 : (l1 ++ l2).getD i 0 = 0
      · exact .inl (by rw [h0]; rfl)
      · refine .inr ⟨fun k hk e => ?_, ?_⟩
        · rw [toI_get] at e
          exact ht ⟨i, k, hi, hk, h0, by omega⟩
        · rw [getZ_nat _ e1]
          intro e
          exact e2 (UInt16.toNat_inj.1 (by have : (s.cnt ((l1 ++ l2).getD i 0)).toNat = 0 := by omega
                                           rw [this]; rfl))
theorem twice_yes {w : World} {A : Option Addr} {c n : Nat} {L : List Nat} (h : ToldV w A (ints L)) (hl : L.length ≤ 4096) (hn : L.length = n) (ht : twiceP L) :
    Calls Try.prog 60 #[.slice A n c] w fun e w' => e = .returned (.bool true) ∧ Below w.heap.size w w' := by
  subst hn
  refine (rtwice_any h hl).mono ?_
  rintro e w' ⟨r, rfl, hr, b⟩
  rw [hr.2 ht]
  exact ⟨rfl, b⟩
theorem twice_no {w : World} {A : Option Addr} {c n : Nat} {L : List Nat} (h : ToldV w A (ints L)) (hl : L.length ≤ 4096) (hn : L.length = n) (ht : ¬ twiceP L) :
    Calls Try.prog 60 #[.slice A n c] w fun e w' => e = .returned (.bool false) ∧ Below w.heap.size w w' := by
  subst hn
  refine (rtwice_any h hl).mono ?_
  rintro e w' ⟨r, rfl, hr, b⟩
  rcases r with _ | _
  · exact ⟨rfl, b⟩
  · exact absurd (hr.1 rfl) ht
theorem box_sheet (w : World) (A1 A3 : Option Addr) (n1 n3 c1 c3 : Nat) : RowV (w.alloc (.cells #[.slice A1 n1 c1, .slice A3 n3 c3] 42)) w.heap.size 42 [.slice A1 n1 c1, .slice A3 n3 c3] := alloc_rowV w 42 _
theorem rpages_is (n : Nat) (h : n ≤ 9000) (m : Nat) (hm : pg n = m) (w : World) :
    Calls Try.prog 38 #[.int .i64 (n : Int)] w fun e w' => e = .returned (.int .i64 (m : Int)) ∧ w = w' := by
  subst hm
  exact rpages_eq n h w
set_option maxRecDepth 100000 in
set_option maxHeartbeats 8000000 in
theorem rright_any {w : World} {b1 c1 b2 c2 g1 d1 g3 d3 : Nat} {sx : St} (h : RAt w b1 c1 b2 c2 sx) {l1 l2 : List Nat} (hs1 : HasV w g1 0 (ints l1)) (hs3 : HasV w g3 0 (ints l2)) (hl1 : l1.length = pg sx.n) (hl2 : l2.length = pg (pg sx.n)) :
    Calls Try.prog 49 #[.slice (some ⟨b1, 0, none⟩) sx.n c1, .agg #[.slice (some ⟨g1, 0, none⟩) l1.length d1, .slice (some ⟨g3, 0, none⟩) l2.length d3]] w (Bo (RightS sx (toI l1) (toI l2)) w) := by
  have hlo : 0 < sx.n := h.ok.lo
  have hhi : sx.n ≤ 4096 := h.ok.hi
  have hp1 : 0 < l1.length ∧ l1.length ≤ 100 := by rw [hl1]; unfold pg; omega
  have hp2 : 0 < l2.length ∧ l2.length ≤ 100 := by
    have : pg sx.n ≤ 100 ∧ 0 < pg sx.n := by unfold pg; omega
    rw [hl2]; generalize pg sx.n = z at *; unfold pg; omega
  have HRI := Lib.hid (right_iff hl1 hl2)
  have hx1 := hs1.lt (by rw [length_ints]; exact hp1.1)
  have hx3 := hs3.lt (by rw [length_ints]; exact hp2.1)
  have B1 := box_below w (.cells #[.slice (some ⟨g1, 0, none⟩) l1.length d1, .slice (some ⟨g3, 0, none⟩) l2.length d3] 42)
  have HR := Lib.hid (box_sheet w (some ⟨g1, 0, none⟩) (some ⟨g3, 0, none⟩) l1.length l2.length d1 d3)
  have H1 := Lib.hid (hs1.below hx1 B1)
  have H3 := Lib.hid (hs3.below hx3 B1)
  have HAT := Lib.hid (h.below B1)
  have HB := Lib.hid B1
  have HP := Lib.hid (And.intro hp1 hp2)
  have HLL := Lib.hid (And.intro hl1 hl2)
  clear h hs1 hs3 hx1 hx3 B1 hp1 hp2 hl1 hl2
  go_enter Try.func49, Try.ntmps49
  go_upto_region 1 with (fail)
  generalize w.alloc (.cells #[.slice (some ⟨g1, 0, none⟩) l1.length d1, .slice (some ⟨g3, 0, none⟩) l2.length d3] 42) = w1 at *
  obtain ⟨x, hx⟩ : ∃ x, x = w.heap.size := ⟨_, rfl⟩
  rw [← hx] at HR ⊢
  clear hx
  refine Inv2.wp_region_inv (fun b a wy => ∃ (z : Nat → Value) (z5 : Value) (z7 : Value) (z10 : Value) (z13 : Value), a = ⟨(List.toArray (.slice (some ⟨b1, 0, none⟩) sx.n c1 :: .agg #[.slice (some ⟨g1, 0, none⟩) l1.length d1, .slice (some ⟨g3, 0, none⟩) l2.length d3] :: undef :: .pointer (some ⟨x, 0, none⟩) :: .bool false :: z5 :: undef :: z7 :: (z 8) :: (z 9) :: z10 :: (z 11) :: (z 12) :: z13 :: undef :: undef :: undef :: undef :: undef :: undef :: undef :: undef :: undef :: undef :: undef :: undef :: undef :: undef :: undef :: undef :: undef :: undef :: undef :: undef :: undef :: undef :: undef :: undef :: undef :: undef :: undef :: undef :: undef :: undef :: undef :: undef :: undef :: undef :: undef :: undef :: undef :: undef :: undef :: undef :: undef :: undef :: undef :: undef :: undef :: undef :: undef :: undef :: undef :: undef :: undef :: undef :: undef :: undef :: undef :: undef :: undef :: undef :: [])), []⟩ ∧ Hid ((b 1 = true → (z 8) = .pointer (some ⟨x, 0, none⟩)) ∧ (b 2 = true → (z 9) = .slice (some ⟨g1, 0, none⟩) l1.length d1) ∧ (b 4 = true → (z 11) = .pointer (some ⟨x, 1, none⟩)) ∧ (b 5 = true → (z 12) = .slice (some ⟨g3, 0, none⟩) l2.length d3)) ∧ Hid (Below w1.heap.size w1 wy) ∧ Hid (∃ v5 v6 : Value, (b 0 = true → ∃ e5, z7 = .slice (some ⟨e5, 0, none⟩) 0 0 ∧ w1.heap.size ≤ e5 ∧ (b 3 = false → OwnI wy w1.heap.size z7 [])) ∧ (b 3 = true → z10 = v5 ∧ (b 6 = false → OwnI wy w1.heap.size v5 (toI l1))) ∧ (b 6 = true → b 3 = true ∧ z13 = v6 ∧ OwnI wy w1.heap.size v6 (toI l1 ++ toI l2)) ∧ (b 7 = true → b 6 = true ∧ z5 = v6) ∧ (b 3 = true → b 0 = true))) (by kernel_rfl) (by kernel_rfl) ?startR1 ?stepsR1 ?doneR1
  case startR1 =>
    intro b hb
    refine ⟨fun s => undef, undef, undef, undef, undef, rfl, Lib.hid ⟨?_, ?_, ?_, ?_⟩, Lib.hid ((show Still w1 w1.drew from ⟨rfl, rfl, rfl, rfl⟩).below _), Lib.hid (⟨undef, undef, (fun e => by rw [hb _ (by decide)] at e; cases e), (fun e => by rw [hb _ (by decide)] at e; cases e), (fun e => by rw [hb _ (by decide)] at e; cases e), (fun e => by rw [hb _ (by decide)] at e; cases e), (fun e => by rw [hb _ (by decide)] at e; cases e)⟩)⟩
    all_goals (intro e; first | rfl | (rw [hb _ (by decide)] at e; cases e))
  case stepsR1 =>
    refine ⟨?_, ?_, ?_, ?_, ?_, ?_, ?_, ?_, trivial⟩
    · rintro b a wy hb hd ⟨z, z5, z7, z10, z13, rfl, HV, HW, HX⟩ K hK
      clear hd
      obtain ⟨v5, v6, x1, x2, x3, x4, x5⟩ := HX.out
      go_simp
      have kz := (Below.refl wy.heap.size wy).alloc (Nat.le_refl _) (.cells #[] 3)
      have ho := own_empty wy w1.heap.size HW.out.size
      have V := HV.out
      exact hK _ _ ⟨fun s => z s, _, _, _, _, rfl, Lib.hid ⟨V.1, V.2.1, V.2.2.1, V.2.2.2⟩, Lib.hid (HW.out.trans (kz.mono HW.out.size)), Lib.hid ⟨v5, v6, fun _ => ⟨_, rfl, HW.out.size, fun _ => ho⟩, fun e => absurd (x5 e) (by rw [hb]; decide), fun e => absurd (x5 (x3 e).1) (by rw [hb]; decide), x4, fun _ => rfl⟩⟩
    · rintro b a wy hb hd ⟨z, z5, z7, z10, z13, rfl, HV, HW, HX⟩ K hK
      clear hd
      go_simp
      have V := HV.out
      exact hK _ _ ⟨fun s => if s = 8 then .pointer (some ⟨x, 0, none⟩) else z s, _, _, _, _, rfl, Lib.hid ⟨fun _ => rfl, V.2.1, V.2.2.1, V.2.2.2⟩, HW, HX⟩
    · rintro b a wy hb hd ⟨z, z5, z7, z10, z13, rfl, HV, HW, HX⟩ K hK
      simp [Region.binds] at hd
      have e1 : (z 8) = .pointer (some ⟨x, 0, none⟩) := (HV.out.1) (by simp [hd])
      clear hd
      have q0 := (HR.out.below HR.out.lt HW.out).cellAt (i := 0) rfl
      go_simp
      have V := HV.out
      exact hK _ _ ⟨fun s => if s = 9 then .slice (some ⟨g1, 0, none⟩) l1.length d1 else if s = 8 then .pointer (some ⟨x, 0, none⟩) else z s, _, _, _, _, rfl, Lib.hid ⟨fun _ => rfl, fun _ => rfl, V.2.2.1, V.2.2.2⟩, HW, HX⟩
    · rintro b a wy hb hd ⟨z, z5, z7, z10, z13, rfl, HV, HW, HX⟩ K hK
      simp [Region.binds] at hd
      have dd0 : b 0 = true := by simp [hd]
      have e2 : (z 9) = .slice (some ⟨g1, 0, none⟩) l1.length d1 := (HV.out.2.1) (by simp [hd])
      clear hd
      obtain ⟨v5, v6, x1, x2, x3, x4, x5⟩ := HX.out
      obtain ⟨e5, rfl, hlo5, ho5⟩ := x1 dd0
      have hh := H1.out.below (H1.out.lt (by rw [length_ints]; exact HP.out.1.1)) HW.out
      obtain ⟨v9, w9, hrun, hown, hbel⟩ := app_onto (c := d1) (ho5 hb) hh (by have := HP.out; omega) (by simp) HW.out.size 31
      rw [e2]
      refine if_wanted (by rfl) (wp_append_run (.tmp 7) (.tmp 9) 31 rfl _ _ rfl rfl _ w9 hrun ?_)
      have V := HV.out
      exact hK _ _ ⟨fun s => if s = 9 then .slice (some ⟨g1, 0, none⟩) l1.length d1 else z s, _, _, _, _, rfl, Lib.hid ⟨V.1, fun _ => rfl, V.2.2.1, V.2.2.2⟩, Lib.hid (HW.out.trans hbel), Lib.hid ⟨v9, v6, fun _ => ⟨e5, rfl, hlo5, fun e => (by cases e)⟩, fun _ => ⟨rfl, fun _ => hown⟩, fun e => absurd (x3 e).1 (by rw [hb]; decide), fun e => absurd (x3 (x4 e).1).1 (by rw [hb]; decide), fun _ => dd0⟩⟩
    · rintro b a wy hb hd ⟨z, z5, z7, z10, z13, rfl, HV, HW, HX⟩ K hK
      clear hd
      go_simp
      have V := HV.out
      exact hK _ _ ⟨fun s => if s = 11 then .pointer (some ⟨x, 1, none⟩) else z s, _, _, _, _, rfl, Lib.hid ⟨V.1, V.2.1, fun _ => rfl, V.2.2.2⟩, HW, HX⟩
    · rintro b a wy hb hd ⟨z, z5, z7, z10, z13, rfl, HV, HW, HX⟩ K hK
      simp [Region.binds] at hd
      have e4 : (z 11) = .pointer (some ⟨x, 1, none⟩) := (HV.out.2.2.1) (by simp [hd])
      clear hd
      have q1 := (HR.out.below HR.out.lt HW.out).cellAt (i := 1) rfl
      go_simp
      have V := HV.out
      exact hK _ _ ⟨fun s => if s = 12 then .slice (some ⟨g3, 0, none⟩) l2.length d3 else if s = 11 then .pointer (some ⟨x, 1, none⟩) else z s, _, _, _, _, rfl, Lib.hid ⟨V.1, V.2.1, fun _ => rfl, fun _ => rfl⟩, HW, HX⟩
    · rintro b a wy hb hd ⟨z, z5, z7, z10, z13, rfl, HV, HW, HX⟩ K hK
      simp [Region.binds] at hd
      have dd3 : b 3 = true := by simp [hd]
      have e5 : (z 12) = .slice (some ⟨g3, 0, none⟩) l2.length d3 := (HV.out.2.2.2) (by simp [hd])
      clear hd
      obtain ⟨v5, v6, x1, x2, x3, x4, x5⟩ := HX.out
      obtain ⟨rfl, ho5⟩ := x2 dd3
      have hh := H3.out.below (H3.out.lt (by rw [length_ints]; exact HP.out.2.1)) HW.out
      obtain ⟨v9, w9, hrun, hown, hbel⟩ := app_onto (c := d3) (ho5 hb) hh (by have := HP.out; omega) (by rw [length_toI]; have := HP.out; omega) HW.out.size 31
      rw [e5]
      refine if_wanted (by rfl) (wp_append_run (.tmp 10) (.tmp 12) 31 rfl _ _ rfl rfl _ w9 hrun ?_)
      have V := HV.out
      exact hK _ _ ⟨fun s => if s = 12 then .slice (some ⟨g3, 0, none⟩) l2.length d3 else z s, _, _, _, _, rfl, Lib.hid ⟨V.1, V.2.1, V.2.2.1, fun _ => rfl⟩, Lib.hid (HW.out.trans hbel), Lib.hid ⟨_, v9, fun e => (by obtain ⟨e5, y1, y2, y3⟩ := x1 e; exact ⟨e5, y1, y2, fun e2 => absurd (dd3.symm.trans e2) (by decide)⟩), fun _ => ⟨rfl, fun e => (by cases e)⟩, fun _ => ⟨dd3, rfl, hown⟩, fun e => absurd (x4 e).1 (by rw [hb]; decide), x5⟩⟩
    · rintro b a wy hb hd ⟨z, z5, z7, z10, z13, rfl, HV, HW, HX⟩ K hK
      simp [Region.binds] at hd
      have dd6 : b 6 = true := by simp [hd]
      clear hd
      obtain ⟨v5, v6, x1, x2, x3, x4, x5⟩ := HX.out
      obtain ⟨d3t, rfl, ho6⟩ := x3 dd6
      have HXX := Lib.hid (And.intro x1 (And.intro x2 x5))
      have HD3 := Lib.hid d3t
      clear x1 x2 x3 x4 x5 d3t HX
      go_simp
      have V := HV.out
      exact hK _ _ ⟨fun s => z s, _, _, _, _, rfl, Lib.hid ⟨V.1, V.2.1, V.2.2.1, V.2.2.2⟩, HW, Lib.hid ⟨v5, _, HXX.out.1, HXX.out.2.1, fun _ => ⟨HD3.out, rfl, ho6⟩, fun _ => ⟨dd6, rfl⟩, HXX.out.2.2⟩⟩
  case doneR1 =>
    rintro b a w2 hb ⟨z, z5, z7, z10, z13, rfl, HV, HW, HX⟩
    have e1 := (HV.out.1) (hb 1)
    have e2 := (HV.out.2.1) (hb 2)
    have e4 := (HV.out.2.2.1) (hb 4)
    have e5 := (HV.out.2.2.2) (hb 5)
    simp only [e1, e2, e4, e5]
    clear HV e1 e2 e4 e5
    obtain ⟨v5, v6, x1, x2, x3, x4, _⟩ := HX.out
    obtain ⟨e5, rfl, _, _⟩ := x1 (hb 0)
    obtain ⟨rfl, _⟩ := x2 (hb 3)
    obtain ⟨_, rfl, ho⟩ := x3 (hb 6)
    obtain ⟨_, rfl⟩ := x4 (hb 7)
    obtain ⟨A6, c6, rfl, ht⟩ := OwnI.told ho
    rw [toI_app, zs_toI] at ht
    have hlen : (toI l1 ++ toI l2).length = l1.length + l2.length := by rw [List.length_append, length_toI, length_toI]
    rw [hlen]
    have HT := Lib.hid ht
    have HLE := Lib.hid (show (l1 ++ l2).length = l1.length + l2.length from List.length_append)
    have HR2 := Lib.hid (HR.out.below HR.out.lt HW.out)
    have HA2 := Lib.hid (HAT.out.below HW.out)
    have HB2 := Lib.hid (HB.out.trans (HW.out.mono HB.out.size))
    clear x1 x2 x3 x4 ho ht hlen HX HW hb HR HB H1 H3
    go_upto_region 2 with (fail)
    have hb1 : ((l1.length : Int) != (l1.length : Int)) = false := by simp
    have hb2 : ((l2.length : Int) != (l2.length : Int)) = false := by simp
    by_cases htw : twiceP (l1 ++ l2)
    · skip
      refine Inv2.wp_region_inv (fun b a wy => ∃ (z : Nat → Value), a = ⟨(List.toArray (.slice (some ⟨b1, 0, none⟩) sx.n c1 :: .agg #[.slice (some ⟨g1, 0, none⟩) l1.length d1, .slice (some ⟨g3, 0, none⟩) l2.length d3] :: undef :: .pointer (some ⟨x, 0, none⟩) :: .bool false :: .slice A6 (l1.length + l2.length) c6 :: undef :: .slice (some ⟨e5, 0, none⟩) 0 0 :: .pointer (some ⟨x, 0, none⟩) :: .slice (some ⟨g1, 0, none⟩) l1.length d1 :: z10 :: .pointer (some ⟨x, 1, none⟩) :: .slice (some ⟨g3, 0, none⟩) l2.length d3 :: .slice A6 (l1.length + l2.length) c6 :: (z 14) :: (z 15) :: (z 16) :: (z 17) :: (z 18) :: (z 19) :: (z 20) :: (z 21) :: (z 22) :: (z 23) :: (z 24) :: (z 25) :: (z 26) :: (z 27) :: (z 28) :: (z 29) :: (z 30) :: (z 31) :: (z 32) :: (z 33) :: (z 34) :: undef :: undef :: undef :: undef :: undef :: undef :: undef :: undef :: undef :: undef :: undef :: undef :: undef :: undef :: undef :: undef :: undef :: undef :: undef :: undef :: undef :: undef :: undef :: undef :: undef :: undef :: undef :: undef :: undef :: undef :: undef :: undef :: undef :: undef :: undef :: undef :: undef :: [])), []⟩ ∧ Hid ((b 0 = true → (z 14) = .pointer (some ⟨x, 0, none⟩)) ∧ (b 1 = true → (z 15) = .slice (some ⟨g1, 0, none⟩) l1.length d1) ∧ (b 2 = true → (z 16) = .int .i64 (l1.length : Int)) ∧ (b 3 = true → (z 17) = .slice (some ⟨b1, 0, none⟩) sx.n c1) ∧ (b 4 = true → (z 18) = .int .i64 (sx.n : Int)) ∧ (b 5 = true → (z 19) = .int .i64 (l1.length : Int)) ∧ (b 6 = true → (z 20) = .bool false) ∧ (b 7 = true → (z 21) = .bool false) ∧ (b 8 = true → (z 22) = .pointer (some ⟨x, 1, none⟩)) ∧ (b 9 = true → (z 23) = .slice (some ⟨g3, 0, none⟩) l2.length d3) ∧ (b 10 = true → (z 24) = .int .i64 (l2.length : Int)) ∧ (b 11 = true → (z 25) = .pointer (some ⟨x, 0, none⟩)) ∧ (b 12 = true → (z 26) = .slice (some ⟨g1, 0, none⟩) l1.length d1) ∧ (b 13 = true → (z 27) = .int .i64 (l1.length : Int)) ∧ (b 14 = true → (z 28) = .int .i64 (l2.length : Int)) ∧ (b 15 = true → (z 29) = .bool false) ∧ (b 16 = true → (z 30) = .bool false) ∧ (b 17 = true → (z 31) = .bool false) ∧ (b 18 = true → (z 32) = .slice A6 (l1.length + l2.length) c6) ∧ (b 19 = true → (z 33) = .bool true) ∧ (b 20 = true → (z 34) = .bool true)) ∧ Hid (Below w2.heap.size w2 wy) ∧ Hid (RowV wy x 42 [.slice (some ⟨g1, 0, none⟩) l1.length d1, .slice (some ⟨g3, 0, none⟩) l2.length d3] ∧ ToldV wy A6 (ints (l1 ++ l2)) ∧ RAt wy b1 c1 b2 c2 sx)) (by kernel_rfl) (by kernel_rfl) ?startR2 ?stepsR2 ?doneR2
      case startR2 =>
        intro b hb
        refine ⟨fun s => undef, rfl, Lib.hid ⟨?_, ?_, ?_, ?_, ?_, ?_, ?_, ?_, ?_, ?_, ?_, ?_, ?_, ?_, ?_, ?_, ?_, ?_, ?_, ?_, ?_⟩, Lib.hid ((show Still w2 w2.drew from ⟨rfl, rfl, rfl, rfl⟩).below _), Lib.hid (⟨HR2.out.still (show Still w2 w2.drew from ⟨rfl, rfl, rfl, rfl⟩), HT.out.below ((show Still w2 w2.drew from ⟨rfl, rfl, rfl, rfl⟩).below _), HA2.out.below ((show Still w2 w2.drew from ⟨rfl, rfl, rfl, rfl⟩).below _)⟩)⟩
        all_goals (intro e; first | rfl | (rw [hb _ (by decide)] at e; cases e))
      case stepsR2 =>
        refine ⟨?_, ?_, ?_, ?_, ?_, ?_, ?_, ?_, ?_, ?_, ?_, ?_, ?_, ?_, ?_, ?_, ?_, ?_, ?_, ?_, ?_, trivial⟩
        · rintro b a wy hb hd ⟨z, rfl, HV, HW, HX⟩ K hK
          clear hd
          go_simp
          have V := HV.out
          exact hK _ _ ⟨fun s => if s = 14 then .pointer (some ⟨x, 0, none⟩) else z s, rfl, Lib.hid ⟨fun _ => rfl, V.2.1, V.2.2.1, V.2.2.2.1, V.2.2.2.2.1, V.2.2.2.2.2.1, V.2.2.2.2.2.2.1, V.2.2.2.2.2.2.2.1, V.2.2.2.2.2.2.2.2.1, V.2.2.2.2.2.2.2.2.2.1, V.2.2.2.2.2.2.2.2.2.2.1, V.2.2.2.2.2.2.2.2.2.2.2.1, V.2.2.2.2.2.2.2.2.2.2.2.2.1, V.2.2.2.2.2.2.2.2.2.2.2.2.2.1, V.2.2.2.2.2.2.2.2.2.2.2.2.2.2.1, V.2.2.2.2.2.2.2.2.2.2.2.2.2.2.2.1, V.2.2.2.2.2.2.2.2.2.2.2.2.2.2.2.2.1, V.2.2.2.2.2.2.2.2.2.2.2.2.2.2.2.2.2.1, V.2.2.2.2.2.2.2.2.2.2.2.2.2.2.2.2.2.2.1, V.2.2.2.2.2.2.2.2.2.2.2.2.2.2.2.2.2.2.2.1, V.2.2.2.2.2.2.2.2.2.2.2.2.2.2.2.2.2.2.2.2⟩, HW, HX⟩
        · rintro b a wy hb hd ⟨z, rfl, HV, HW, HX⟩ K hK
          simp [Region.binds] at hd
          have e0 : (z 14) = .pointer (some ⟨x, 0, none⟩) := (HV.out.1) (by simp [hd])
          clear hd
          have q0 := HX.out.1.cellAt (i := 0) rfl
          go_simp
          have V := HV.out
          exact hK _ _ ⟨fun s => if s = 15 then .slice (some ⟨g1, 0, none⟩) l1.length d1 else if s = 14 then .pointer (some ⟨x, 0, none⟩) else z s, rfl, Lib.hid ⟨fun _ => rfl, fun _ => rfl, V.2.2.1, V.2.2.2.1, V.2.2.2.2.1, V.2.2.2.2.2.1, V.2.2.2.2.2.2.1, V.2.2.2.2.2.2.2.1, V.2.2.2.2.2.2.2.2.1, V.2.2.2.2.2.2.2.2.2.1, V.2.2.2.2.2.2.2.2.2.2.1, V.2.2.2.2.2.2.2.2.2.2.2.1, V.2.2.2.2.2.2.2.2.2.2.2.2.1, V.2.2.2.2.2.2.2.2.2.2.2.2.2.1, V.2.2.2.2.2.2.2.2.2.2.2.2.2.2.1, V.2.2.2.2.2.2.2.2.2.2.2.2.2.2.2.1, V.2.2.2.2.2.2.2.2.2.2.2.2.2.2.2.2.1, V.2.2.2.2.2.2.2.2.2.2.2.2.2.2.2.2.2.1, V.2.2.2.2.2.2.2.2.2.2.2.2.2.2.2.2.2.2.1, V.2.2.2.2.2.2.2.2.2.2.2.2.2.2.2.2.2.2.2.1, V.2.2.2.2.2.2.2.2.2.2.2.2.2.2.2.2.2.2.2.2⟩, HW, HX⟩
        · rintro b a wy hb hd ⟨z, rfl, HV, HW, HX⟩ K hK
          simp [Region.binds] at hd
          have e1 : (z 15) = .slice (some ⟨g1, 0, none⟩) l1.length d1 := (HV.out.2.1) (by simp [hd])
          clear hd
          go_simp
          have V := HV.out
          exact hK _ _ ⟨fun s => if s = 16 then .int .i64 (l1.length : Int) else if s = 15 then .slice (some ⟨g1, 0, none⟩) l1.length d1 else z s, rfl, Lib.hid ⟨V.1, fun _ => rfl, fun _ => rfl, V.2.2.2.1, V.2.2.2.2.1, V.2.2.2.2.2.1, V.2.2.2.2.2.2.1, V.2.2.2.2.2.2.2.1, V.2.2.2.2.2.2.2.2.1, V.2.2.2.2.2.2.2.2.2.1, V.2.2.2.2.2.2.2.2.2.2.1, V.2.2.2.2.2.2.2.2.2.2.2.1, V.2.2.2.2.2.2.2.2.2.2.2.2.1, V.2.2.2.2.2.2.2.2.2.2.2.2.2.1, V.2.2.2.2.2.2.2.2.2.2.2.2.2.2.1, V.2.2.2.2.2.2.2.2.2.2.2.2.2.2.2.1, V.2.2.2.2.2.2.2.2.2.2.2.2.2.2.2.2.1, V.2.2.2.2.2.2.2.2.2.2.2.2.2.2.2.2.2.1, V.2.2.2.2.2.2.2.2.2.2.2.2.2.2.2.2.2.2.1, V.2.2.2.2.2.2.2.2.2.2.2.2.2.2.2.2.2.2.2.1, V.2.2.2.2.2.2.2.2.2.2.2.2.2.2.2.2.2.2.2.2⟩, HW, HX⟩
        · rintro b a wy hb hd ⟨z, rfl, HV, HW, HX⟩ K hK
          clear hd
          go_simp
          have V := HV.out
          exact hK _ _ ⟨fun s => if s = 17 then .slice (some ⟨b1, 0, none⟩) sx.n c1 else z s, rfl, Lib.hid ⟨V.1, V.2.1, V.2.2.1, fun _ => rfl, V.2.2.2.2.1, V.2.2.2.2.2.1, V.2.2.2.2.2.2.1, V.2.2.2.2.2.2.2.1, V.2.2.2.2.2.2.2.2.1, V.2.2.2.2.2.2.2.2.2.1, V.2.2.2.2.2.2.2.2.2.2.1, V.2.2.2.2.2.2.2.2.2.2.2.1, V.2.2.2.2.2.2.2.2.2.2.2.2.1, V.2.2.2.2.2.2.2.2.2.2.2.2.2.1, V.2.2.2.2.2.2.2.2.2.2.2.2.2.2.1, V.2.2.2.2.2.2.2.2.2.2.2.2.2.2.2.1, V.2.2.2.2.2.2.2.2.2.2.2.2.2.2.2.2.1, V.2.2.2.2.2.2.2.2.2.2.2.2.2.2.2.2.2.1, V.2.2.2.2.2.2.2.2.2.2.2.2.2.2.2.2.2.2.1, V.2.2.2.2.2.2.2.2.2.2.2.2.2.2.2.2.2.2.2.1, V.2.2.2.2.2.2.2.2.2.2.2.2.2.2.2.2.2.2.2.2⟩, HW, HX⟩
        · rintro b a wy hb hd ⟨z, rfl, HV, HW, HX⟩ K hK
          simp [Region.binds] at hd
          have e3 : (z 17) = .slice (some ⟨b1, 0, none⟩) sx.n c1 := (HV.out.2.2.2.1) (by simp [hd])
          clear hd
          go_simp
          have V := HV.out
          exact hK _ _ ⟨fun s => if s = 18 then .int .i64 (sx.n : Int) else if s = 17 then .slice (some ⟨b1, 0, none⟩) sx.n c1 else z s, rfl, Lib.hid ⟨V.1, V.2.1, V.2.2.1, fun _ => rfl, fun _ => rfl, V.2.2.2.2.2.1, V.2.2.2.2.2.2.1, V.2.2.2.2.2.2.2.1, V.2.2.2.2.2.2.2.2.1, V.2.2.2.2.2.2.2.2.2.1, V.2.2.2.2.2.2.2.2.2.2.1, V.2.2.2.2.2.2.2.2.2.2.2.1, V.2.2.2.2.2.2.2.2.2.2.2.2.1, V.2.2.2.2.2.2.2.2.2.2.2.2.2.1, V.2.2.2.2.2.2.2.2.2.2.2.2.2.2.1, V.2.2.2.2.2.2.2.2.2.2.2.2.2.2.2.1, V.2.2.2.2.2.2.2.2.2.2.2.2.2.2.2.2.1, V.2.2.2.2.2.2.2.2.2.2.2.2.2.2.2.2.2.1, V.2.2.2.2.2.2.2.2.2.2.2.2.2.2.2.2.2.2.1, V.2.2.2.2.2.2.2.2.2.2.2.2.2.2.2.2.2.2.2.1, V.2.2.2.2.2.2.2.2.2.2.2.2.2.2.2.2.2.2.2.2⟩, HW, HX⟩
        · rintro b a wy hb hd ⟨z, rfl, HV, HW, HX⟩ K hK
          simp [Region.binds] at hd
          have e4 : (z 18) = .int .i64 (sx.n : Int) := (HV.out.2.2.2.2.1) (by simp [hd])
          clear hd
          go_simp
          go_at_call 38
          refine (rpages_is sx.n (by omega) l1.length HLL.out.1.symm _).mono ?_
          rintro e wz ⟨rfl, rfl⟩
          try go_simp
          have V := HV.out
          exact hK _ _ ⟨fun s => if s = 19 then .int .i64 (l1.length : Int) else if s = 18 then .int .i64 (sx.n : Int) else z s, rfl, Lib.hid ⟨V.1, V.2.1, V.2.2.1, V.2.2.2.1, fun _ => rfl, fun _ => rfl, V.2.2.2.2.2.2.1, V.2.2.2.2.2.2.2.1, V.2.2.2.2.2.2.2.2.1, V.2.2.2.2.2.2.2.2.2.1, V.2.2.2.2.2.2.2.2.2.2.1, V.2.2.2.2.2.2.2.2.2.2.2.1, V.2.2.2.2.2.2.2.2.2.2.2.2.1, V.2.2.2.2.2.2.2.2.2.2.2.2.2.1, V.2.2.2.2.2.2.2.2.2.2.2.2.2.2.1, V.2.2.2.2.2.2.2.2.2.2.2.2.2.2.2.1, V.2.2.2.2.2.2.2.2.2.2.2.2.2.2.2.2.1, V.2.2.2.2.2.2.2.2.2.2.2.2.2.2.2.2.2.1, V.2.2.2.2.2.2.2.2.2.2.2.2.2.2.2.2.2.2.1, V.2.2.2.2.2.2.2.2.2.2.2.2.2.2.2.2.2.2.2.1, V.2.2.2.2.2.2.2.2.2.2.2.2.2.2.2.2.2.2.2.2⟩, HW, HX⟩
        · rintro b a wy hb hd ⟨z, rfl, HV, HW, HX⟩ K hK
          simp [Region.binds] at hd
          have e2 : (z 16) = .int .i64 (l1.length : Int) := (HV.out.2.2.1) (by simp [hd])
          have e5 : (z 19) = .int .i64 (l1.length : Int) := (HV.out.2.2.2.2.2.1) (by simp [hd])
          clear hd
          go_simp
          have V := HV.out
          exact hK _ _ ⟨fun s => if s = 20 then .bool false else if s = 16 then .int .i64 (l1.length : Int) else if s = 19 then .int .i64 (l1.length : Int) else z s, rfl, Lib.hid ⟨V.1, V.2.1, fun _ => rfl, V.2.2.2.1, V.2.2.2.2.1, fun _ => rfl, fun _ => rfl, V.2.2.2.2.2.2.2.1, V.2.2.2.2.2.2.2.2.1, V.2.2.2.2.2.2.2.2.2.1, V.2.2.2.2.2.2.2.2.2.2.1, V.2.2.2.2.2.2.2.2.2.2.2.1, V.2.2.2.2.2.2.2.2.2.2.2.2.1, V.2.2.2.2.2.2.2.2.2.2.2.2.2.1, V.2.2.2.2.2.2.2.2.2.2.2.2.2.2.1, V.2.2.2.2.2.2.2.2.2.2.2.2.2.2.2.1, V.2.2.2.2.2.2.2.2.2.2.2.2.2.2.2.2.1, V.2.2.2.2.2.2.2.2.2.2.2.2.2.2.2.2.2.1, V.2.2.2.2.2.2.2.2.2.2.2.2.2.2.2.2.2.2.1, V.2.2.2.2.2.2.2.2.2.2.2.2.2.2.2.2.2.2.2.1, V.2.2.2.2.2.2.2.2.2.2.2.2.2.2.2.2.2.2.2.2⟩, HW, HX⟩
        · rintro b a wy hb hd ⟨z, rfl, HV, HW, HX⟩ K hK
          simp [Region.binds] at hd
          have e6 : (z 20) = .bool false := (HV.out.2.2.2.2.2.2.1) (by simp [hd])
          clear hd
          go_simp
          have V := HV.out
          exact hK _ _ ⟨fun s => if s = 21 then .bool false else if s = 20 then .bool false else z s, rfl, Lib.hid ⟨V.1, V.2.1, V.2.2.1, V.2.2.2.1, V.2.2.2.2.1, V.2.2.2.2.2.1, fun _ => rfl, fun _ => rfl, V.2.2.2.2.2.2.2.2.1, V.2.2.2.2.2.2.2.2.2.1, V.2.2.2.2.2.2.2.2.2.2.1, V.2.2.2.2.2.2.2.2.2.2.2.1, V.2.2.2.2.2.2.2.2.2.2.2.2.1, V.2.2.2.2.2.2.2.2.2.2.2.2.2.1, V.2.2.2.2.2.2.2.2.2.2.2.2.2.2.1, V.2.2.2.2.2.2.2.2.2.2.2.2.2.2.2.1, V.2.2.2.2.2.2.2.2.2.2.2.2.2.2.2.2.1, V.2.2.2.2.2.2.2.2.2.2.2.2.2.2.2.2.2.1, V.2.2.2.2.2.2.2.2.2.2.2.2.2.2.2.2.2.2.1, V.2.2.2.2.2.2.2.2.2.2.2.2.2.2.2.2.2.2.2.1, V.2.2.2.2.2.2.2.2.2.2.2.2.2.2.2.2.2.2.2.2⟩, HW, HX⟩
        · rintro b a wy hb hd ⟨z, rfl, HV, HW, HX⟩ K hK
          simp [Region.binds] at hd
          have e7 : (z 21) = .bool false := (HV.out.2.2.2.2.2.2.2.1) (by simp [hd])
          clear hd
          go_simp
          have V := HV.out
          exact hK _ _ ⟨fun s => if s = 22 then .pointer (some ⟨x, 1, none⟩) else if s = 21 then .bool false else z s, rfl, Lib.hid ⟨V.1, V.2.1, V.2.2.1, V.2.2.2.1, V.2.2.2.2.1, V.2.2.2.2.2.1, V.2.2.2.2.2.2.1, fun _ => rfl, fun _ => rfl, V.2.2.2.2.2.2.2.2.2.1, V.2.2.2.2.2.2.2.2.2.2.1, V.2.2.2.2.2.2.2.2.2.2.2.1, V.2.2.2.2.2.2.2.2.2.2.2.2.1, V.2.2.2.2.2.2.2.2.2.2.2.2.2.1, V.2.2.2.2.2.2.2.2.2.2.2.2.2.2.1, V.2.2.2.2.2.2.2.2.2.2.2.2.2.2.2.1, V.2.2.2.2.2.2.2.2.2.2.2.2.2.2.2.2.1, V.2.2.2.2.2.2.2.2.2.2.2.2.2.2.2.2.2.1, V.2.2.2.2.2.2.2.2.2.2.2.2.2.2.2.2.2.2.1, V.2.2.2.2.2.2.2.2.2.2.2.2.2.2.2.2.2.2.2.1, V.2.2.2.2.2.2.2.2.2.2.2.2.2.2.2.2.2.2.2.2⟩, HW, HX⟩
        · rintro b a wy hb hd ⟨z, rfl, HV, HW, HX⟩ K hK
          simp [Region.binds] at hd
          have e7 : (z 21) = .bool false := (HV.out.2.2.2.2.2.2.2.1) (by simp [hd])
          have e8 : (z 22) = .pointer (some ⟨x, 1, none⟩) := (HV.out.2.2.2.2.2.2.2.2.1) (by simp [hd])
          clear hd
          have q1 := HX.out.1.cellAt (i := 1) rfl
          go_simp
          have V := HV.out
          exact hK _ _ ⟨fun s => if s = 23 then .slice (some ⟨g3, 0, none⟩) l2.length d3 else if s = 21 then .bool false else if s = 22 then .pointer (some ⟨x, 1, none⟩) else z s, rfl, Lib.hid ⟨V.1, V.2.1, V.2.2.1, V.2.2.2.1, V.2.2.2.2.1, V.2.2.2.2.2.1, V.2.2.2.2.2.2.1, fun _ => rfl, fun _ => rfl, fun _ => rfl, V.2.2.2.2.2.2.2.2.2.2.1, V.2.2.2.2.2.2.2.2.2.2.2.1, V.2.2.2.2.2.2.2.2.2.2.2.2.1, V.2.2.2.2.2.2.2.2.2.2.2.2.2.1, V.2.2.2.2.2.2.2.2.2.2.2.2.2.2.1, V.2.2.2.2.2.2.2.2.2.2.2.2.2.2.2.1, V.2.2.2.2.2.2.2.2.2.2.2.2.2.2.2.2.1, V.2.2.2.2.2.2.2.2.2.2.2.2.2.2.2.2.2.1, V.2.2.2.2.2.2.2.2.2.2.2.2.2.2.2.2.2.2.1, V.2.2.2.2.2.2.2.2.2.2.2.2.2.2.2.2.2.2.2.1, V.2.2.2.2.2.2.2.2.2.2.2.2.2.2.2.2.2.2.2.2⟩, HW, HX⟩
        · rintro b a wy hb hd ⟨z, rfl, HV, HW, HX⟩ K hK
          simp [Region.binds] at hd
          have e7 : (z 21) = .bool false := (HV.out.2.2.2.2.2.2.2.1) (by simp [hd])
          have e9 : (z 23) = .slice (some ⟨g3, 0, none⟩) l2.length d3 := (HV.out.2.2.2.2.2.2.2.2.2.1) (by simp [hd])
          clear hd
          go_simp
          have V := HV.out
          exact hK _ _ ⟨fun s => if s = 24 then .int .i64 (l2.length : Int) else if s = 21 then .bool false else if s = 23 then .slice (some ⟨g3, 0, none⟩) l2.length d3 else z s, rfl, Lib.hid ⟨V.1, V.2.1, V.2.2.1, V.2.2.2.1, V.2.2.2.2.1, V.2.2.2.2.2.1, V.2.2.2.2.2.2.1, fun _ => rfl, V.2.2.2.2.2.2.2.2.1, fun _ => rfl, fun _ => rfl, V.2.2.2.2.2.2.2.2.2.2.2.1, V.2.2.2.2.2.2.2.2.2.2.2.2.1, V.2.2.2.2.2.2.2.2.2.2.2.2.2.1, V.2.2.2.2.2.2.2.2.2.2.2.2.2.2.1, V.2.2.2.2.2.2.2.2.2.2.2.2.2.2.2.1, V.2.2.2.2.2.2.2.2.2.2.2.2.2.2.2.2.1, V.2.2.2.2.2.2.2.2.2.2.2.2.2.2.2.2.2.1, V.2.2.2.2.2.2.2.2.2.2.2.2.2.2.2.2.2.2.1, V.2.2.2.2.2.2.2.2.2.2.2.2.2.2.2.2.2.2.2.1, V.2.2.2.2.2.2.2.2.2.2.2.2.2.2.2.2.2.2.2.2⟩, HW, HX⟩
        · rintro b a wy hb hd ⟨z, rfl, HV, HW, HX⟩ K hK
          simp [Region.binds] at hd
          have e7 : (z 21) = .bool false := (HV.out.2.2.2.2.2.2.2.1) (by simp [hd])
          clear hd
          go_simp
          have V := HV.out
          exact hK _ _ ⟨fun s => if s = 25 then .pointer (some ⟨x, 0, none⟩) else if s = 21 then .bool false else z s, rfl, Lib.hid ⟨V.1, V.2.1, V.2.2.1, V.2.2.2.1, V.2.2.2.2.1, V.2.2.2.2.2.1, V.2.2.2.2.2.2.1, fun _ => rfl, V.2.2.2.2.2.2.2.2.1, V.2.2.2.2.2.2.2.2.2.1, V.2.2.2.2.2.2.2.2.2.2.1, fun _ => rfl, V.2.2.2.2.2.2.2.2.2.2.2.2.1, V.2.2.2.2.2.2.2.2.2.2.2.2.2.1, V.2.2.2.2.2.2.2.2.2.2.2.2.2.2.1, V.2.2.2.2.2.2.2.2.2.2.2.2.2.2.2.1, V.2.2.2.2.2.2.2.2.2.2.2.2.2.2.2.2.1, V.2.2.2.2.2.2.2.2.2.2.2.2.2.2.2.2.2.1, V.2.2.2.2.2.2.2.2.2.2.2.2.2.2.2.2.2.2.1, V.2.2.2.2.2.2.2.2.2.2.2.2.2.2.2.2.2.2.2.1, V.2.2.2.2.2.2.2.2.2.2.2.2.2.2.2.2.2.2.2.2⟩, HW, HX⟩
        · rintro b a wy hb hd ⟨z, rfl, HV, HW, HX⟩ K hK
          simp [Region.binds] at hd
          have e7 : (z 21) = .bool false := (HV.out.2.2.2.2.2.2.2.1) (by simp [hd])
          have e11 : (z 25) = .pointer (some ⟨x, 0, none⟩) := (HV.out.2.2.2.2.2.2.2.2.2.2.2.1) (by simp [hd])
          clear hd
          have q0 := HX.out.1.cellAt (i := 0) rfl
          go_simp
          have V := HV.out
          exact hK _ _ ⟨fun s => if s = 26 then .slice (some ⟨g1, 0, none⟩) l1.length d1 else if s = 21 then .bool false else if s = 25 then .pointer (some ⟨x, 0, none⟩) else z s, rfl, Lib.hid ⟨V.1, V.2.1, V.2.2.1, V.2.2.2.1, V.2.2.2.2.1, V.2.2.2.2.2.1, V.2.2.2.2.2.2.1, fun _ => rfl, V.2.2.2.2.2.2.2.2.1, V.2.2.2.2.2.2.2.2.2.1, V.2.2.2.2.2.2.2.2.2.2.1, fun _ => rfl, fun _ => rfl, V.2.2.2.2.2.2.2.2.2.2.2.2.2.1, V.2.2.2.2.2.2.2.2.2.2.2.2.2.2.1, V.2.2.2.2.2.2.2.2.2.2.2.2.2.2.2.1, V.2.2.2.2.2.2.2.2.2.2.2.2.2.2.2.2.1, V.2.2.2.2.2.2.2.2.2.2.2.2.2.2.2.2.2.1, V.2.2.2.2.2.2.2.2.2.2.2.2.2.2.2.2.2.2.1, V.2.2.2.2.2.2.2.2.2.2.2.2.2.2.2.2.2.2.2.1, V.2.2.2.2.2.2.2.2.2.2.2.2.2.2.2.2.2.2.2.2⟩, HW, HX⟩
        · rintro b a wy hb hd ⟨z, rfl, HV, HW, HX⟩ K hK
          simp [Region.binds] at hd
          have e7 : (z 21) = .bool false := (HV.out.2.2.2.2.2.2.2.1) (by simp [hd])
          have e12 : (z 26) = .slice (some ⟨g1, 0, none⟩) l1.length d1 := (HV.out.2.2.2.2.2.2.2.2.2.2.2.2.1) (by simp [hd])
          clear hd
          go_simp
          have V := HV.out
          exact hK _ _ ⟨fun s => if s = 27 then .int .i64 (l1.length : Int) else if s = 21 then .bool false else if s = 26 then .slice (some ⟨g1, 0, none⟩) l1.length d1 else z s, rfl, Lib.hid ⟨V.1, V.2.1, V.2.2.1, V.2.2.2.1, V.2.2.2.2.1, V.2.2.2.2.2.1, V.2.2.2.2.2.2.1, fun _ => rfl, V.2.2.2.2.2.2.2.2.1, V.2.2.2.2.2.2.2.2.2.1, V.2.2.2.2.2.2.2.2.2.2.1, V.2.2.2.2.2.2.2.2.2.2.2.1, fun _ => rfl, fun _ => rfl, V.2.2.2.2.2.2.2.2.2.2.2.2.2.2.1, V.2.2.2.2.2.2.2.2.2.2.2.2.2.2.2.1, V.2.2.2.2.2.2.2.2.2.2.2.2.2.2.2.2.1, V.2.2.2.2.2.2.2.2.2.2.2.2.2.2.2.2.2.1, V.2.2.2.2.2.2.2.2.2.2.2.2.2.2.2.2.2.2.1, V.2.2.2.2.2.2.2.2.2.2.2.2.2.2.2.2.2.2.2.1, V.2.2.2.2.2.2.2.2.2.2.2.2.2.2.2.2.2.2.2.2⟩, HW, HX⟩
        · rintro b a wy hb hd ⟨z, rfl, HV, HW, HX⟩ K hK
          simp [Region.binds] at hd
          have e7 : (z 21) = .bool false := (HV.out.2.2.2.2.2.2.2.1) (by simp [hd])
          have e13 : (z 27) = .int .i64 (l1.length : Int) := (HV.out.2.2.2.2.2.2.2.2.2.2.2.2.2.1) (by simp [hd])
          clear hd
          go_simp
          go_at_call 38
          refine (rpages_is l1.length (by have := HP.out; omega) l2.length (by rw [HLL.out.1, HLL.out.2]) _).mono ?_
          rintro e wz ⟨rfl, rfl⟩
          try go_simp
          have V := HV.out
          exact hK _ _ ⟨fun s => if s = 28 then .int .i64 (l2.length : Int) else if s = 21 then .bool false else if s = 27 then .int .i64 (l1.length : Int) else z s, rfl, Lib.hid ⟨V.1, V.2.1, V.2.2.1, V.2.2.2.1, V.2.2.2.2.1, V.2.2.2.2.2.1, V.2.2.2.2.2.2.1, fun _ => rfl, V.2.2.2.2.2.2.2.2.1, V.2.2.2.2.2.2.2.2.2.1, V.2.2.2.2.2.2.2.2.2.2.1, V.2.2.2.2.2.2.2.2.2.2.2.1, V.2.2.2.2.2.2.2.2.2.2.2.2.1, fun _ => rfl, fun _ => rfl, V.2.2.2.2.2.2.2.2.2.2.2.2.2.2.2.1, V.2.2.2.2.2.2.2.2.2.2.2.2.2.2.2.2.1, V.2.2.2.2.2.2.2.2.2.2.2.2.2.2.2.2.2.1, V.2.2.2.2.2.2.2.2.2.2.2.2.2.2.2.2.2.2.1, V.2.2.2.2.2.2.2.2.2.2.2.2.2.2.2.2.2.2.2.1, V.2.2.2.2.2.2.2.2.2.2.2.2.2.2.2.2.2.2.2.2⟩, HW, HX⟩
        · rintro b a wy hb hd ⟨z, rfl, HV, HW, HX⟩ K hK
          simp [Region.binds] at hd
          have e7 : (z 21) = .bool false := (HV.out.2.2.2.2.2.2.2.1) (by simp [hd])
          have e10 : (z 24) = .int .i64 (l2.length : Int) := (HV.out.2.2.2.2.2.2.2.2.2.2.1) (by simp [hd])
          have e14 : (z 28) = .int .i64 (l2.length : Int) := (HV.out.2.2.2.2.2.2.2.2.2.2.2.2.2.2.1) (by simp [hd])
          clear hd
          go_simp
          have V := HV.out
          exact hK _ _ ⟨fun s => if s = 29 then .bool false else if s = 21 then .bool false else if s = 24 then .int .i64 (l2.length : Int) else if s = 28 then .int .i64 (l2.length : Int) else z s, rfl, Lib.hid ⟨V.1, V.2.1, V.2.2.1, V.2.2.2.1, V.2.2.2.2.1, V.2.2.2.2.2.1, V.2.2.2.2.2.2.1, fun _ => rfl, V.2.2.2.2.2.2.2.2.1, V.2.2.2.2.2.2.2.2.2.1, fun _ => rfl, V.2.2.2.2.2.2.2.2.2.2.2.1, V.2.2.2.2.2.2.2.2.2.2.2.2.1, V.2.2.2.2.2.2.2.2.2.2.2.2.2.1, fun _ => rfl, fun _ => rfl, V.2.2.2.2.2.2.2.2.2.2.2.2.2.2.2.2.1, V.2.2.2.2.2.2.2.2.2.2.2.2.2.2.2.2.2.1, V.2.2.2.2.2.2.2.2.2.2.2.2.2.2.2.2.2.2.1, V.2.2.2.2.2.2.2.2.2.2.2.2.2.2.2.2.2.2.2.1, V.2.2.2.2.2.2.2.2.2.2.2.2.2.2.2.2.2.2.2.2⟩, HW, HX⟩
        · rintro b a wy hb hd ⟨z, rfl, HV, HW, HX⟩ K hK
          simp [Region.binds] at hd
          have e7 : (z 21) = .bool false := (HV.out.2.2.2.2.2.2.2.1) (by simp [hd])
          have e15 : (z 29) = .bool false := (HV.out.2.2.2.2.2.2.2.2.2.2.2.2.2.2.2.1) (by simp [hd])
          clear hd
          go_simp
          have V := HV.out
          exact hK _ _ ⟨fun s => if s = 30 then .bool false else if s = 21 then .bool false else if s = 29 then .bool false else z s, rfl, Lib.hid ⟨V.1, V.2.1, V.2.2.1, V.2.2.2.1, V.2.2.2.2.1, V.2.2.2.2.2.1, V.2.2.2.2.2.2.1, fun _ => rfl, V.2.2.2.2.2.2.2.2.1, V.2.2.2.2.2.2.2.2.2.1, V.2.2.2.2.2.2.2.2.2.2.1, V.2.2.2.2.2.2.2.2.2.2.2.1, V.2.2.2.2.2.2.2.2.2.2.2.2.1, V.2.2.2.2.2.2.2.2.2.2.2.2.2.1, V.2.2.2.2.2.2.2.2.2.2.2.2.2.2.1, fun _ => rfl, fun _ => rfl, V.2.2.2.2.2.2.2.2.2.2.2.2.2.2.2.2.2.1, V.2.2.2.2.2.2.2.2.2.2.2.2.2.2.2.2.2.2.1, V.2.2.2.2.2.2.2.2.2.2.2.2.2.2.2.2.2.2.2.1, V.2.2.2.2.2.2.2.2.2.2.2.2.2.2.2.2.2.2.2.2⟩, HW, HX⟩
        · rintro b a wy hb hd ⟨z, rfl, HV, HW, HX⟩ K hK
          simp [Region.binds] at hd
          have e16 : (z 30) = .bool false := (HV.out.2.2.2.2.2.2.2.2.2.2.2.2.2.2.2.2.1) (by simp [hd])
          clear hd
          go_simp
          have V := HV.out
          exact hK _ _ ⟨fun s => if s = 31 then .bool false else if s = 30 then .bool false else z s, rfl, Lib.hid ⟨V.1, V.2.1, V.2.2.1, V.2.2.2.1, V.2.2.2.2.1, V.2.2.2.2.2.1, V.2.2.2.2.2.2.1, V.2.2.2.2.2.2.2.1, V.2.2.2.2.2.2.2.2.1, V.2.2.2.2.2.2.2.2.2.1, V.2.2.2.2.2.2.2.2.2.2.1, V.2.2.2.2.2.2.2.2.2.2.2.1, V.2.2.2.2.2.2.2.2.2.2.2.2.1, V.2.2.2.2.2.2.2.2.2.2.2.2.2.1, V.2.2.2.2.2.2.2.2.2.2.2.2.2.2.1, V.2.2.2.2.2.2.2.2.2.2.2.2.2.2.2.1, fun _ => rfl, fun _ => rfl, V.2.2.2.2.2.2.2.2.2.2.2.2.2.2.2.2.2.2.1, V.2.2.2.2.2.2.2.2.2.2.2.2.2.2.2.2.2.2.2.1, V.2.2.2.2.2.2.2.2.2.2.2.2.2.2.2.2.2.2.2.2⟩, HW, HX⟩
        · rintro b a wy hb hd ⟨z, rfl, HV, HW, HX⟩ K hK
          simp [Region.binds] at hd
          have e17 : (z 31) = .bool false := (HV.out.2.2.2.2.2.2.2.2.2.2.2.2.2.2.2.2.2.1) (by simp [hd])
          clear hd
          go_simp
          have V := HV.out
          exact hK _ _ ⟨fun s => if s = 32 then .slice A6 (l1.length + l2.length) c6 else if s = 31 then .bool false else z s, rfl, Lib.hid ⟨V.1, V.2.1, V.2.2.1, V.2.2.2.1, V.2.2.2.2.1, V.2.2.2.2.2.1, V.2.2.2.2.2.2.1, V.2.2.2.2.2.2.2.1, V.2.2.2.2.2.2.2.2.1, V.2.2.2.2.2.2.2.2.2.1, V.2.2.2.2.2.2.2.2.2.2.1, V.2.2.2.2.2.2.2.2.2.2.2.1, V.2.2.2.2.2.2.2.2.2.2.2.2.1, V.2.2.2.2.2.2.2.2.2.2.2.2.2.1, V.2.2.2.2.2.2.2.2.2.2.2.2.2.2.1, V.2.2.2.2.2.2.2.2.2.2.2.2.2.2.2.1, V.2.2.2.2.2.2.2.2.2.2.2.2.2.2.2.2.1, fun _ => rfl, fun _ => rfl, V.2.2.2.2.2.2.2.2.2.2.2.2.2.2.2.2.2.2.2.1, V.2.2.2.2.2.2.2.2.2.2.2.2.2.2.2.2.2.2.2.2⟩, HW, HX⟩
        · rintro b a wy hb hd ⟨z, rfl, HV, HW, HX⟩ K hK
          simp [Region.binds] at hd
          have e17 : (z 31) = .bool false := (HV.out.2.2.2.2.2.2.2.2.2.2.2.2.2.2.2.2.2.1) (by simp [hd])
          have e18 : (z 32) = .slice A6 (l1.length + l2.length) c6 := (HV.out.2.2.2.2.2.2.2.2.2.2.2.2.2.2.2.2.2.2.1) (by simp [hd])
          clear hd
          go_simp
          go_at_call 60
          refine (twice_yes HX.out.2.1 (by have := HP.out; rw [HLE.out]; omega) HLE.out htw).mono ?_
          rintro e wz ⟨rfl, kz⟩
          try go_simp
          have V := HV.out
          exact hK _ _ ⟨fun s => if s = 33 then .bool true else if s = 31 then .bool false else if s = 32 then .slice A6 (l1.length + l2.length) c6 else z s, rfl, Lib.hid ⟨V.1, V.2.1, V.2.2.1, V.2.2.2.1, V.2.2.2.2.1, V.2.2.2.2.2.1, V.2.2.2.2.2.2.1, V.2.2.2.2.2.2.2.1, V.2.2.2.2.2.2.2.2.1, V.2.2.2.2.2.2.2.2.2.1, V.2.2.2.2.2.2.2.2.2.2.1, V.2.2.2.2.2.2.2.2.2.2.2.1, V.2.2.2.2.2.2.2.2.2.2.2.2.1, V.2.2.2.2.2.2.2.2.2.2.2.2.2.1, V.2.2.2.2.2.2.2.2.2.2.2.2.2.2.1, V.2.2.2.2.2.2.2.2.2.2.2.2.2.2.2.1, V.2.2.2.2.2.2.2.2.2.2.2.2.2.2.2.2.1, fun _ => rfl, fun _ => rfl, fun _ => rfl, V.2.2.2.2.2.2.2.2.2.2.2.2.2.2.2.2.2.2.2.2⟩, Lib.hid (HW.out.trans (kz.mono HW.out.size)), Lib.hid ⟨HX.out.1.below HX.out.1.lt kz, HX.out.2.1.below kz, HX.out.2.2.below kz⟩⟩
        · rintro b a wy hb hd ⟨z, rfl, HV, HW, HX⟩ K hK
          simp [Region.binds] at hd
          have e17 : (z 31) = .bool false := (HV.out.2.2.2.2.2.2.2.2.2.2.2.2.2.2.2.2.2.1) (by simp [hd])
          have e19 : (z 33) = .bool true := (HV.out.2.2.2.2.2.2.2.2.2.2.2.2.2.2.2.2.2.2.2.1) (by simp [hd])
          clear hd
          go_simp
          have V := HV.out
          exact hK _ _ ⟨fun s => if s = 34 then .bool true else if s = 31 then .bool false else if s = 33 then .bool true else z s, rfl, Lib.hid ⟨V.1, V.2.1, V.2.2.1, V.2.2.2.1, V.2.2.2.2.1, V.2.2.2.2.2.1, V.2.2.2.2.2.2.1, V.2.2.2.2.2.2.2.1, V.2.2.2.2.2.2.2.2.1, V.2.2.2.2.2.2.2.2.2.1, V.2.2.2.2.2.2.2.2.2.2.1, V.2.2.2.2.2.2.2.2.2.2.2.1, V.2.2.2.2.2.2.2.2.2.2.2.2.1, V.2.2.2.2.2.2.2.2.2.2.2.2.2.1, V.2.2.2.2.2.2.2.2.2.2.2.2.2.2.1, V.2.2.2.2.2.2.2.2.2.2.2.2.2.2.2.1, V.2.2.2.2.2.2.2.2.2.2.2.2.2.2.2.2.1, fun _ => rfl, V.2.2.2.2.2.2.2.2.2.2.2.2.2.2.2.2.2.2.1, fun _ => rfl, fun _ => rfl⟩, HW, HX⟩
      case doneR2 =>
        rintro b a w3 hb ⟨z, rfl, HV, HW, HX⟩
        have e0 := (HV.out.1) (hb 0)
        have e1 := (HV.out.2.1) (hb 1)
        have e2 := (HV.out.2.2.1) (hb 2)
        have e3 := (HV.out.2.2.2.1) (hb 3)
        have e4 := (HV.out.2.2.2.2.1) (hb 4)
        have e5 := (HV.out.2.2.2.2.2.1) (hb 5)
        have e6 := (HV.out.2.2.2.2.2.2.1) (hb 6)
        have e7 := (HV.out.2.2.2.2.2.2.2.1) (hb 7)
        have e8 := (HV.out.2.2.2.2.2.2.2.2.1) (hb 8)
        have e9 := (HV.out.2.2.2.2.2.2.2.2.2.1) (hb 9)
        have e10 := (HV.out.2.2.2.2.2.2.2.2.2.2.1) (hb 10)
        have e11 := (HV.out.2.2.2.2.2.2.2.2.2.2.2.1) (hb 11)
        have e12 := (HV.out.2.2.2.2.2.2.2.2.2.2.2.2.1) (hb 12)
        have e13 := (HV.out.2.2.2.2.2.2.2.2.2.2.2.2.2.1) (hb 13)
        have e14 := (HV.out.2.2.2.2.2.2.2.2.2.2.2.2.2.2.1) (hb 14)
        have e15 := (HV.out.2.2.2.2.2.2.2.2.2.2.2.2.2.2.2.1) (hb 15)
        have e16 := (HV.out.2.2.2.2.2.2.2.2.2.2.2.2.2.2.2.2.1) (hb 16)
        have e17 := (HV.out.2.2.2.2.2.2.2.2.2.2.2.2.2.2.2.2.2.1) (hb 17)
        have e18 := (HV.out.2.2.2.2.2.2.2.2.2.2.2.2.2.2.2.2.2.2.1) (hb 18)
        have e19 := (HV.out.2.2.2.2.2.2.2.2.2.2.2.2.2.2.2.2.2.2.2.1) (hb 19)
        have e20 := (HV.out.2.2.2.2.2.2.2.2.2.2.2.2.2.2.2.2.2.2.2.2) (hb 20)
        simp only [e0, e1, e2, e3, e4, e5, e6, e7, e8, e9, e10, e11, e12, e13, e14, e15, e16, e17, e18, e19, e20]
        clear HV e0 e1 e2 e3 e4 e5 e6 e7 e8 e9 e10 e11 e12 e13 e14 e15 e16 e17 e18 e19 e20
        have HW9 := Lib.hid (HB2.out.trans (HW.out.mono HB2.out.size))
        clear HX HW hb
        go_wp2_with fail
        go_ret
        exact Bo.no (fun hh => (HRI.out.1 hh).1 htw) HW9.out
    · skip
      refine Inv2.wp_region_inv (fun b a wy => ∃ (z : Nat → Value), a = ⟨(List.toArray (.slice (some ⟨b1, 0, none⟩) sx.n c1 :: .agg #[.slice (some ⟨g1, 0, none⟩) l1.length d1, .slice (some ⟨g3, 0, none⟩) l2.length d3] :: undef :: .pointer (some ⟨x, 0, none⟩) :: .bool false :: .slice A6 (l1.length + l2.length) c6 :: undef :: .slice (some ⟨e5, 0, none⟩) 0 0 :: .pointer (some ⟨x, 0, none⟩) :: .slice (some ⟨g1, 0, none⟩) l1.length d1 :: z10 :: .pointer (some ⟨x, 1, none⟩) :: .slice (some ⟨g3, 0, none⟩) l2.length d3 :: .slice A6 (l1.length + l2.length) c6 :: (z 14) :: (z 15) :: (z 16) :: (z 17) :: (z 18) :: (z 19) :: (z 20) :: (z 21) :: (z 22) :: (z 23) :: (z 24) :: (z 25) :: (z 26) :: (z 27) :: (z 28) :: (z 29) :: (z 30) :: (z 31) :: (z 32) :: (z 33) :: (z 34) :: undef :: undef :: undef :: undef :: undef :: undef :: undef :: undef :: undef :: undef :: undef :: undef :: undef :: undef :: undef :: undef :: undef :: undef :: undef :: undef :: undef :: undef :: undef :: undef :: undef :: undef :: undef :: undef :: undef :: undef :: undef :: undef :: undef :: undef :: undef :: undef :: undef :: [])), []⟩ ∧ Hid ((b 0 = true → (z 14) = .pointer (some ⟨x, 0, none⟩)) ∧ (b 1 = true → (z 15) = .slice (some ⟨g1, 0, none⟩) l1.length d1) ∧ (b 2 = true → (z 16) = .int .i64 (l1.length : Int)) ∧ (b 3 = true → (z 17) = .slice (some ⟨b1, 0, none⟩) sx.n c1) ∧ (b 4 = true → (z 18) = .int .i64 (sx.n : Int)) ∧ (b 5 = true → (z 19) = .int .i64 (l1.length : Int)) ∧ (b 6 = true → (z 20) = .bool false) ∧ (b 7 = true → (z 21) = .bool false) ∧ (b 8 = true → (z 22) = .pointer (some ⟨x, 1, none⟩)) ∧ (b 9 = true → (z 23) = .slice (some ⟨g3, 0, none⟩) l2.length d3) ∧ (b 10 = true → (z 24) = .int .i64 (l2.length : Int)) ∧ (b 11 = true → (z 25) = .pointer (some ⟨x, 0, none⟩)) ∧ (b 12 = true → (z 26) = .slice (some ⟨g1, 0, none⟩) l1.length d1) ∧ (b 13 = true → (z 27) = .int .i64 (l1.length : Int)) ∧ (b 14 = true → (z 28) = .int .i64 (l2.length : Int)) ∧ (b 15 = true → (z 29) = .bool false) ∧ (b 16 = true → (z 30) = .bool false) ∧ (b 17 = true → (z 31) = .bool false) ∧ (b 18 = true → (z 32) = .slice A6 (l1.length + l2.length) c6) ∧ (b 19 = true → (z 33) = .bool false) ∧ (b 20 = true → (z 34) = .bool false)) ∧ Hid (Below w2.heap.size w2 wy) ∧ Hid (RowV wy x 42 [.slice (some ⟨g1, 0, none⟩) l1.length d1, .slice (some ⟨g3, 0, none⟩) l2.length d3] ∧ ToldV wy A6 (ints (l1 ++ l2)) ∧ RAt wy b1 c1 b2 c2 sx)) (by kernel_rfl) (by kernel_rfl) ?startR3 ?stepsR3 ?doneR3
      case startR3 =>
        intro b hb
        refine ⟨fun s => undef, rfl, Lib.hid ⟨?_, ?_, ?_, ?_, ?_, ?_, ?_, ?_, ?_, ?_, ?_, ?_, ?_, ?_, ?_, ?_, ?_, ?_, ?_, ?_, ?_⟩, Lib.hid ((show Still w2 w2.drew from ⟨rfl, rfl, rfl, rfl⟩).below _), Lib.hid (⟨HR2.out.still (show Still w2 w2.drew from ⟨rfl, rfl, rfl, rfl⟩), HT.out.below ((show Still w2 w2.drew from ⟨rfl, rfl, rfl, rfl⟩).below _), HA2.out.below ((show Still w2 w2.drew from ⟨rfl, rfl, rfl, rfl⟩).below _)⟩)⟩
        all_goals (intro e; first | rfl | (rw [hb _ (by decide)] at e; cases e))
      case stepsR3 =>
        refine ⟨?_, ?_, ?_, ?_, ?_, ?_, ?_, ?_, ?_, ?_, ?_, ?_, ?_, ?_, ?_, ?_, ?_, ?_, ?_, ?_, ?_, trivial⟩
        · rintro b a wy hb hd ⟨z, rfl, HV, HW, HX⟩ K hK
          clear hd
          go_simp
          have V := HV.out
          exact hK _ _ ⟨fun s => if s = 14 then .pointer (some ⟨x, 0, none⟩) else z s, rfl, Lib.hid ⟨fun _ => rfl, V.2.1, V.2.2.1, V.2.2.2.1, V.2.2.2.2.1, V.2.2.2.2.2.1, V.2.2.2.2.2.2.1, V.2.2.2.2.2.2.2.1, V.2.2.2.2.2.2.2.2.1, V.2.2.2.2.2.2.2.2.2.1, V.2.2.2.2.2.2.2.2.2.2.1, V.2.2.2.2.2.2.2.2.2.2.2.1, V.2.2.2.2.2.2.2.2.2.2.2.2.1, V.2.2.2.2.2.2.2.2.2.2.2.2.2.1, V.2.2.2.2.2.2.2.2.2.2.2.2.2.2.1, V.2.2.2.2.2.2.2.2.2.2.2.2.2.2.2.1, V.2.2.2.2.2.2.2.2.2.2.2.2.2.2.2.2.1, V.2.2.2.2.2.2.2.2.2.2.2.2.2.2.2.2.2.1, V.2.2.2.2.2.2.2.2.2.2.2.2.2.2.2.2.2.2.1, V.2.2.2.2.2.2.2.2.2.2.2.2.2.2.2.2.2.2.2.1, V.2.2.2.2.2.2.2.2.2.2.2.2.2.2.2.2.2.2.2.2⟩, HW, HX⟩
        · rintro b a wy hb hd ⟨z, rfl, HV, HW, HX⟩ K hK
          simp [Region.binds] at hd
          have e0 : (z 14) = .pointer (some ⟨x, 0, none⟩) := (HV.out.1) (by simp [hd])
          clear hd
          have q0 := HX.out.1.cellAt (i := 0) rfl
          go_simp
          have V := HV.out
          exact hK _ _ ⟨fun s => if s = 15 then .slice (some ⟨g1, 0, none⟩) l1.length d1 else if s = 14 then .pointer (some ⟨x, 0, none⟩) else z s, rfl, Lib.hid ⟨fun _ => rfl, fun _ => rfl, V.2.2.1, V.2.2.2.1, V.2.2.2.2.1, V.2.2.2.2.2.1, V.2.2.2.2.2.2.1, V.2.2.2.2.2.2.2.1, V.2.2.2.2.2.2.2.2.1, V.2.2.2.2.2.2.2.2.2.1, V.2.2.2.2.2.2.2.2.2.2.1, V.2.2.2.2.2.2.2.2.2.2.2.1, V.2.2.2.2.2.2.2.2.2.2.2.2.1, V.2.2.2.2.2.2.2.2.2.2.2.2.2.1, V.2.2.2.2.2.2.2.2.2.2.2.2.2.2.1, V.2.2.2.2.2.2.2.2.2.2.2.2.2.2.2.1, V.2.2.2.2.2.2.2.2.2.2.2.2.2.2.2.2.1, V.2.2.2.2.2.2.2.2.2.2.2.2.2.2.2.2.2.1, V.2.2.2.2.2.2.2.2.2.2.2.2.2.2.2.2.2.2.1, V.2.2.2.2.2.2.2.2.2.2.2.2.2.2.2.2.2.2.2.1, V.2.2.2.2.2.2.2.2.2.2.2.2.2.2.2.2.2.2.2.2⟩, HW, HX⟩
        · rintro b a wy hb hd ⟨z, rfl, HV, HW, HX⟩ K hK
          simp [Region.binds] at hd
          have e1 : (z 15) = .slice (some ⟨g1, 0, none⟩) l1.length d1 := (HV.out.2.1) (by simp [hd])
          clear hd
          go_simp
          have V := HV.out
          exact hK _ _ ⟨fun s => if s = 16 then .int .i64 (l1.length : Int) else if s = 15 then .slice (some ⟨g1, 0, none⟩) l1.length d1 else z s, rfl, Lib.hid ⟨V.1, fun _ => rfl, fun _ => rfl, V.2.2.2.1, V.2.2.2.2.1, V.2.2.2.2.2.1, V.2.2.2.2.2.2.1, V.2.2.2.2.2.2.2.1, V.2.2.2.2.2.2.2.2.1, V.2.2.2.2.2.2.2.2.2.1, V.2.2.2.2.2.2.2.2.2.2.1, V.2.2.2.2.2.2.2.2.2.2.2.1, V.2.2.2.2.2.2.2.2.2.2.2.2.1, V.2.2.2.2.2.2.2.2.2.2.2.2.2.1, V.2.2.2.2.2.2.2.2.2.2.2.2.2.2.1, V.2.2.2.2.2.2.2.2.2.2.2.2.2.2.2.1, V.2.2.2.2.2.2.2.2.2.2.2.2.2.2.2.2.1, V.2.2.2.2.2.2.2.2.2.2.2.2.2.2.2.2.2.1, V.2.2.2.2.2.2.2.2.2.2.2.2.2.2.2.2.2.2.1, V.2.2.2.2.2.2.2.2.2.2.2.2.2.2.2.2.2.2.2.1, V.2.2.2.2.2.2.2.2.2.2.2.2.2.2.2.2.2.2.2.2⟩, HW, HX⟩
        · rintro b a wy hb hd ⟨z, rfl, HV, HW, HX⟩ K hK
          clear hd
          go_simp
          have V := HV.out
          exact hK _ _ ⟨fun s => if s = 17 then .slice (some ⟨b1, 0, none⟩) sx.n c1 else z s, rfl, Lib.hid ⟨V.1, V.2.1, V.2.2.1, fun _ => rfl, V.2.2.2.2.1, V.2.2.2.2.2.1, V.2.2.2.2.2.2.1, V.2.2.2.2.2.2.2.1, V.2.2.2.2.2.2.2.2.1, V.2.2.2.2.2.2.2.2.2.1, V.2.2.2.2.2.2.2.2.2.2.1, V.2.2.2.2.2.2.2.2.2.2.2.1, V.2.2.2.2.2.2.2.2.2.2.2.2.1, V.2.2.2.2.2.2.2.2.2.2.2.2.2.1, V.2.2.2.2.2.2.2.2.2.2.2.2.2.2.1, V.2.2.2.2.2.2.2.2.2.2.2.2.2.2.2.1, V.2.2.2.2.2.2.2.2.2.2.2.2.2.2.2.2.1, V.2.2.2.2.2.2.2.2.2.2.2.2.2.2.2.2.2.1, V.2.2.2.2.2.2.2.2.2.2.2.2.2.2.2.2.2.2.1, V.2.2.2.2.2.2.2.2.2.2.2.2.2.2.2.2.2.2.2.1, V.2.2.2.2.2.2.2.2.2.2.2.2.2.2.2.2.2.2.2.2⟩, HW, HX⟩
        · rintro b a wy hb hd ⟨z, rfl, HV, HW, HX⟩ K hK
          simp [Region.binds] at hd
          have e3 : (z 17) = .slice (some ⟨b1, 0, none⟩) sx.n c1 := (HV.out.2.2.2.1) (by simp [hd])
          clear hd
          go_simp
          have V := HV.out
          exact hK _ _ ⟨fun s => if s = 18 then .int .i64 (sx.n : Int) else if s = 17 then .slice (some ⟨b1, 0, none⟩) sx.n c1 else z s, rfl, Lib.hid ⟨V.1, V.2.1, V.2.2.1, fun _ => rfl, fun _ => rfl, V.2.2.2.2.2.1, V.2.2.2.2.2.2.1, V.2.2.2.2.2.2.2.1, V.2.2.2.2.2.2.2.2.1, V.2.2.2.2.2.2.2.2.2.1, V.2.2.2.2.2.2.2.2.2.2.1, V.2.2.2.2.2.2.2.2.2.2.2.1, V.2.2.2.2.2.2.2.2.2.2.2.2.1, V.2.2.2.2.2.2.2.2.2.2.2.2.2.1, V.2.2.2.2.2.2.2.2.2.2.2.2.2.2.1, V.2.2.2.2.2.2.2.2.2.2.2.2.2.2.2.1, V.2.2.2.2.2.2.2.2.2.2.2.2.2.2.2.2.1, V.2.2.2.2.2.2.2.2.2.2.2.2.2.2.2.2.2.1, V.2.2.2.2.2.2.2.2.2.2.2.2.2.2.2.2.2.2.1, V.2.2.2.2.2.2.2.2.2.2.2.2.2.2.2.2.2.2.2.1, V.2.2.2.2.2.2.2.2.2.2.2.2.2.2.2.2.2.2.2.2⟩, HW, HX⟩
        · rintro b a wy hb hd ⟨z, rfl, HV, HW, HX⟩ K hK
          simp [Region.binds] at hd
          have e4 : (z 18) = .int .i64 (sx.n : Int) := (HV.out.2.2.2.2.1) (by simp [hd])
          clear hd
          go_simp
          go_at_call 38
          refine (rpages_is sx.n (by omega) l1.length HLL.out.1.symm _).mono ?_
          rintro e wz ⟨rfl, rfl⟩
          try go_simp
          have V := HV.out
          exact hK _ _ ⟨fun s => if s = 19 then .int .i64 (l1.length : Int) else if s = 18 then .int .i64 (sx.n : Int) else z s, rfl, Lib.hid ⟨V.1, V.2.1, V.2.2.1, V.2.2.2.1, fun _ => rfl, fun _ => rfl, V.2.2.2.2.2.2.1, V.2.2.2.2.2.2.2.1, V.2.2.2.2.2.2.2.2.1, V.2.2.2.2.2.2.2.2.2.1, V.2.2.2.2.2.2.2.2.2.2.1, V.2.2.2.2.2.2.2.2.2.2.2.1, V.2.2.2.2.2.2.2.2.2.2.2.2.1, V.2.2.2.2.2.2.2.2.2.2.2.2.2.1, V.2.2.2.2.2.2.2.2.2.2.2.2.2.2.1, V.2.2.2.2.2.2.2.2.2.2.2.2.2.2.2.1, V.2.2.2.2.2.2.2.2.2.2.2.2.2.2.2.2.1, V.2.2.2.2.2.2.2.2.2.2.2.2.2.2.2.2.2.1, V.2.2.2.2.2.2.2.2.2.2.2.2.2.2.2.2.2.2.1, V.2.2.2.2.2.2.2.2.2.2.2.2.2.2.2.2.2.2.2.1, V.2.2.2.2.2.2.2.2.2.2.2.2.2.2.2.2.2.2.2.2⟩, HW, HX⟩
        · rintro b a wy hb hd ⟨z, rfl, HV, HW, HX⟩ K hK
          simp [Region.binds] at hd
          have e2 : (z 16) = .int .i64 (l1.length : Int) := (HV.out.2.2.1) (by simp [hd])
          have e5 : (z 19) = .int .i64 (l1.length : Int) := (HV.out.2.2.2.2.2.1) (by simp [hd])
          clear hd
          go_simp
          have V := HV.out
          exact hK _ _ ⟨fun s => if s = 20 then .bool false else if s = 16 then .int .i64 (l1.length : Int) else if s = 19 then .int .i64 (l1.length : Int) else z s, rfl, Lib.hid ⟨V.1, V.2.1, fun _ => rfl, V.2.2.2.1, V.2.2.2.2.1, fun _ => rfl, fun _ => rfl, V.2.2.2.2.2.2.2.1, V.2.2.2.2.2.2.2.2.1, V.2.2.2.2.2.2.2.2.2.1, V.2.2.2.2.2.2.2.2.2.2.1, V.2.2.2.2.2.2.2.2.2.2.2.1, V.2.2.2.2.2.2.2.2.2.2.2.2.1, V.2.2.2.2.2.2.2.2.2.2.2.2.2.1, V.2.2.2.2.2.2.2.2.2.2.2.2.2.2.1, V.2.2.2.2.2.2.2.2.2.2.2.2.2.2.2.1, V.2.2.2.2.2.2.2.2.2.2.2.2.2.2.2.2.1, V.2.2.2.2.2.2.2.2.2.2.2.2.2.2.2.2.2.1, V.2.2.2.2.2.2.2.2.2.2.2.2.2.2.2.2.2.2.1, V.2.2.2.2.2.2.2.2.2.2.2.2.2.2.2.2.2.2.2.1, V.2.2.2.2.2.2.2.2.2.2.2.2.2.2.2.2.2.2.2.2⟩, HW, HX⟩
        · rintro b a wy hb hd ⟨z, rfl, HV, HW, HX⟩ K hK
          simp [Region.binds] at hd
          have e6 : (z 20) = .bool false := (HV.out.2.2.2.2.2.2.1) (by simp [hd])
          clear hd
          go_simp
          have V := HV.out
          exact hK _ _ ⟨fun s => if s = 21 then .bool false else if s = 20 then .bool false else z s, rfl, Lib.hid ⟨V.1, V.2.1, V.2.2.1, V.2.2.2.1, V.2.2.2.2.1, V.2.2.2.2.2.1, fun _ => rfl, fun _ => rfl, V.2.2.2.2.2.2.2.2.1, V.2.2.2.2.2.2.2.2.2.1, V.2.2.2.2.2.2.2.2.2.2.1, V.2.2.2.2.2.2.2.2.2.2.2.1, V.2.2.2.2.2.2.2.2.2.2.2.2.1, V.2.2.2.2.2.2.2.2.2.2.2.2.2.1, V.2.2.2.2.2.2.2.2.2.2.2.2.2.2.1, V.2.2.2.2.2.2.2.2.2.2.2.2.2.2.2.1, V.2.2.2.2.2.2.2.2.2.2.2.2.2.2.2.2.1, V.2.2.2.2.2.2.2.2.2.2.2.2.2.2.2.2.2.1, V.2.2.2.2.2.2.2.2.2.2.2.2.2.2.2.2.2.2.1, V.2.2.2.2.2.2.2.2.2.2.2.2.2.2.2.2.2.2.2.1, V.2.2.2.2.2.2.2.2.2.2.2.2.2.2.2.2.2.2.2.2⟩, HW, HX⟩
        · rintro b a wy hb hd ⟨z, rfl, HV, HW, HX⟩ K hK
          simp [Region.binds] at hd
          have e7 : (z 21) = .bool false := (HV.out.2.2.2.2.2.2.2.1) (by simp [hd])
          clear hd
          go_simp
          have V := HV.out
          exact hK _ _ ⟨fun s => if s = 22 then .pointer (some ⟨x, 1, none⟩) else if s = 21 then .bool false else z s, rfl, Lib.hid ⟨V.1, V.2.1, V.2.2.1, V.2.2.2.1, V.2.2.2.2.1, V.2.2.2.2.2.1, V.2.2.2.2.2.2.1, fun _ => rfl, fun _ => rfl, V.2.2.2.2.2.2.2.2.2.1, V.2.2.2.2.2.2.2.2.2.2.1, V.2.2.2.2.2.2.2.2.2.2.2.1, V.2.2.2.2.2.2.2.2.2.2.2.2.1, V.2.2.2.2.2.2.2.2.2.2.2.2.2.1, V.2.2.2.2.2.2.2.2.2.2.2.2.2.2.1, V.2.2.2.2.2.2.2.2.2.2.2.2.2.2.2.1, V.2.2.2.2.2.2.2.2.2.2.2.2.2.2.2.2.1, V.2.2.2.2.2.2.2.2.2.2.2.2.2.2.2.2.2.1, V.2.2.2.2.2.2.2.2.2.2.2.2.2.2.2.2.2.2.1, V.2.2.2.2.2.2.2.2.2.2.2.2.2.2.2.2.2.2.2.1, V.2.2.2.2.2.2.2.2.2.2.2.2.2.2.2.2.2.2.2.2⟩, HW, HX⟩
        · rintro b a wy hb hd ⟨z, rfl, HV, HW, HX⟩ K hK
          simp [Region.binds] at hd
          have e7 : (z 21) = .bool false := (HV.out.2.2.2.2.2.2.2.1) (by simp [hd])
          have e8 : (z 22) = .pointer (some ⟨x, 1, none⟩) := (HV.out.2.2.2.2.2.2.2.2.1) (by simp [hd])
          clear hd
          have q1 := HX.out.1.cellAt (i := 1) rfl
          go_simp
          have V := HV.out
          exact hK _ _ ⟨fun s => if s = 23 then .slice (some ⟨g3, 0, none⟩) l2.length d3 else if s = 21 then .bool false else if s = 22 then .pointer (some ⟨x, 1, none⟩) else z s, rfl, Lib.hid ⟨V.1, V.2.1, V.2.2.1, V.2.2.2.1, V.2.2.2.2.1, V.2.2.2.2.2.1, V.2.2.2.2.2.2.1, fun _ => rfl, fun _ => rfl, fun _ => rfl, V.2.2.2.2.2.2.2.2.2.2.1, V.2.2.2.2.2.2.2.2.2.2.2.1, V.2.2.2.2.2.2.2.2.2.2.2.2.1, V.2.2.2.2.2.2.2.2.2.2.2.2.2.1, V.2.2.2.2.2.2.2.2.2.2.2.2.2.2.1, V.2.2.2.2.2.2.2.2.2.2.2.2.2.2.2.1, V.2.2.2.2.2.2.2.2.2.2.2.2.2.2.2.2.1, V.2.2.2.2.2.2.2.2.2.2.2.2.2.2.2.2.2.1, V.2.2.2.2.2.2.2.2.2.2.2.2.2.2.2.2.2.2.1, V.2.2.2.2.2.2.2.2.2.2.2.2.2.2.2.2.2.2.2.1, V.2.2.2.2.2.2.2.2.2.2.2.2.2.2.2.2.2.2.2.2⟩, HW, HX⟩
        · rintro b a wy hb hd ⟨z, rfl, HV, HW, HX⟩ K hK
          simp [Region.binds] at hd
          have e7 : (z 21) = .bool false := (HV.out.2.2.2.2.2.2.2.1) (by simp [hd])
          have e9 : (z 23) = .slice (some ⟨g3, 0, none⟩) l2.length d3 := (HV.out.2.2.2.2.2.2.2.2.2.1) (by simp [hd])
          clear hd
          go_simp
          have V := HV.out
          exact hK _ _ ⟨fun s => if s = 24 then .int .i64 (l2.length : Int) else if s = 21 then .bool false else if s = 23 then .slice (some ⟨g3, 0, none⟩) l2.length d3 else z s, rfl, Lib.hid ⟨V.1, V.2.1, V.2.2.1, V.2.2.2.1, V.2.2.2.2.1, V.2.2.2.2.2.1, V.2.2.2.2.2.2.1, fun _ => rfl, V.2.2.2.2.2.2.2.2.1, fun _ => rfl, fun _ => rfl, V.2.2.2.2.2.2.2.2.2.2.2.1, V.2.2.2.2.2.2.2.2.2.2.2.2.1, V.2.2.2.2.2.2.2.2.2.2.2.2.2.1, V.2.2.2.2.2.2.2.2.2.2.2.2.2.2.1, V.2.2.2.2.2.2.2.2.2.2.2.2.2.2.2.1, V.2.2.2.2.2.2.2.2.2.2.2.2.2.2.2.2.1, V.2.2.2.2.2.2.2.2.2.2.2.2.2.2.2.2.2.1, V.2.2.2.2.2.2.2.2.2.2.2.2.2.2.2.2.2.2.1, V.2.2.2.2.2.2.2.2.2.2.2.2.2.2.2.2.2.2.2.1, V.2.2.2.2.2.2.2.2.2.2.2.2.2.2.2.2.2.2.2.2⟩, HW, HX⟩
        · rintro b a wy hb hd ⟨z, rfl, HV, HW, HX⟩ K hK
          simp [Region.binds] at hd
          have e7 : (z 21) = .bool false := (HV.out.2.2.2.2.2.2.2.1) (by simp [hd])
          clear hd
          go_simp
          have V := HV.out
          exact hK _ _ ⟨fun s => if s = 25 then .pointer (some ⟨x, 0, none⟩) else if s = 21 then .bool false else z s, rfl, Lib.hid ⟨V.1, V.2.1, V.2.2.1, V.2.2.2.1, V.2.2.2.2.1, V.2.2.2.2.2.1, V.2.2.2.2.2.2.1, fun _ => rfl, V.2.2.2.2.2.2.2.2.1, V.2.2.2.2.2.2.2.2.2.1, V.2.2.2.2.2.2.2.2.2.2.1, fun _ => rfl, V.2.2.2.2.2.2.2.2.2.2.2.2.1, V.2.2.2.2.2.2.2.2.2.2.2.2.2.1, V.2.2.2.2.2.2.2.2.2.2.2.2.2.2.1, V.2.2.2.2.2.2.2.2.2.2.2.2.2.2.2.1, V.2.2.2.2.2.2.2.2.2.2.2.2.2.2.2.2.1, V.2.2.2.2.2.2.2.2.2.2.2.2.2.2.2.2.2.1, V.2.2.2.2.2.2.2.2.2.2.2.2.2.2.2.2.2.2.1, V.2.2.2.2.2.2.2.2.2.2.2.2.2.2.2.2.2.2.2.1, V.2.2.2.2.2.2.2.2.2.2.2.2.2.2.2.2.2.2.2.2⟩, HW, HX⟩
        · rintro b a wy hb hd ⟨z, rfl, HV, HW, HX⟩ K hK
          simp [Region.binds] at hd
          have e7 : (z 21) = .bool false := (HV.out.2.2.2.2.2.2.2.1) (by simp [hd])
          have e11 : (z 25) = .pointer (some ⟨x, 0, none⟩) := (HV.out.2.2.2.2.2.2.2.2.2.2.2.1) (by simp [hd])
          clear hd
          have q0 := HX.out.1.cellAt (i := 0) rfl
          go_simp
          have V := HV.out
          exact hK _ _ ⟨fun s => if s = 26 then .slice (some ⟨g1, 0, none⟩) l1.length d1 else if s = 21 then .bool false else if s = 25 then .pointer (some ⟨x, 0, none⟩) else z s, rfl, Lib.hid ⟨V.1, V.2.1, V.2.2.1, V.2.2.2.1, V.2.2.2.2.1, V.2.2.2.2.2.1, V.2.2.2.2.2.2.1, fun _ => rfl, V.2.2.2.2.2.2.2.2.1, V.2.2.2.2.2.2.2.2.2.1, V.2.2.2.2.2.2.2.2.2.2.1, fun _ => rfl, fun _ => rfl, V.2.2.2.2.2.2.2.2.2.2.2.2.2.1, V.2.2.2.2.2.2.2.2.2.2.2.2.2.2.1, V.2.2.2.2.2.2.2.2.2.2.2.2.2.2.2.1, V.2.2.2.2.2.2.2.2.2.2.2.2.2.2.2.2.1, V.2.2.2.2.2.2.2.2.2.2.2.2.2.2.2.2.2.1, V.2.2.2.2.2.2.2.2.2.2.2.2.2.2.2.2.2.2.1, V.2.2.2.2.2.2.2.2.2.2.2.2.2.2.2.2.2.2.2.1, V.2.2.2.2.2.2.2.2.2.2.2.2.2.2.2.2.2.2.2.2⟩, HW, HX⟩
        · rintro b a wy hb hd ⟨z, rfl, HV, HW, HX⟩ K hK
          simp [Region.binds] at hd
          have e7 : (z 21) = .bool false := (HV.out.2.2.2.2.2.2.2.1) (by simp [hd])
          have e12 : (z 26) = .slice (some ⟨g1, 0, none⟩) l1.length d1 := (HV.out.2.2.2.2.2.2.2.2.2.2.2.2.1) (by simp [hd])
          clear hd
          go_simp
          have V := HV.out
          exact hK _ _ ⟨fun s => if s = 27 then .int .i64 (l1.length : Int) else if s = 21 then .bool false else if s = 26 then .slice (some ⟨g1, 0, none⟩) l1.length d1 else z s, rfl, Lib.hid ⟨V.1, V.2.1, V.2.2.1, V.2.2.2.1, V.2.2.2.2.1, V.2.2.2.2.2.1, V.2.2.2.2.2.2.1, fun _ => rfl, V.2.2.2.2.2.2.2.2.1, V.2.2.2.2.2.2.2.2.2.1, V.2.2.2.2.2.2.2.2.2.2.1, V.2.2.2.2.2.2.2.2.2.2.2.1, fun _ => rfl, fun _ => rfl, V.2.2.2.2.2.2.2.2.2.2.2.2.2.2.1, V.2.2.2.2.2.2.2.2.2.2.2.2.2.2.2.1, V.2.2.2.2.2.2.2.2.2.2.2.2.2.2.2.2.1, V.2.2.2.2.2.2.2.2.2.2.2.2.2.2.2.2.2.1, V.2.2.2.2.2.2.2.2.2.2.2.2.2.2.2.2.2.2.1, V.2.2.2.2.2.2.2.2.2.2.2.2.2.2.2.2.2.2.2.1, V.2.2.2.2.2.2.2.2.2.2.2.2.2.2.2.2.2.2.2.2⟩, HW, HX⟩
        · rintro b a wy hb hd ⟨z, rfl, HV, HW, HX⟩ K hK
          simp [Region.binds] at hd
          have e7 : (z 21) = .bool false := (HV.out.2.2.2.2.2.2.2.1) (by simp [hd])
          have e13 : (z 27) = .int .i64 (l1.length : Int) := (HV.out.2.2.2.2.2.2.2.2.2.2.2.2.2.1) (by simp [hd])
          clear hd
          go_simp
          go_at_call 38
          refine (rpages_is l1.length (by have := HP.out; omega) l2.length (by rw [HLL.out.1, HLL.out.2]) _).mono ?_
          rintro e wz ⟨rfl, rfl⟩
          try go_simp
          have V := HV.out
          exact hK _ _ ⟨fun s => if s = 28 then .int .i64 (l2.length : Int) else if s = 21 then .bool false else if s = 27 then .int .i64 (l1.length : Int) else z s, rfl, Lib.hid ⟨V.1, V.2.1, V.2.2.1, V.2.2.2.1, V.2.2.2.2.1, V.2.2.2.2.2.1, V.2.2.2.2.2.2.1, fun _ => rfl, V.2.2.2.2.2.2.2.2.1, V.2.2.2.2.2.2.2.2.2.1, V.2.2.2.2.2.2.2.2.2.2.1, V.2.2.2.2.2.2.2.2.2.2.2.1, V.2.2.2.2.2.2.2.2.2.2.2.2.1, fun _ => rfl, fun _ => rfl, V.2.2.2.2.2.2.2.2.2.2.2.2.2.2.2.1, V.2.2.2.2.2.2.2.2.2.2.2.2.2.2.2.2.1, V.2.2.2.2.2.2.2.2.2.2.2.2.2.2.2.2.2.1, V.2.2.2.2.2.2.2.2.2.2.2.2.2.2.2.2.2.2.1, V.2.2.2.2.2.2.2.2.2.2.2.2.2.2.2.2.2.2.2.1, V.2.2.2.2.2.2.2.2.2.2.2.2.2.2.2.2.2.2.2.2⟩, HW, HX⟩
        · rintro b a wy hb hd ⟨z, rfl, HV, HW, HX⟩ K hK
          simp [Region.binds] at hd
          have e7 : (z 21) = .bool false := (HV.out.2.2.2.2.2.2.2.1) (by simp [hd])
          have e10 : (z 24) = .int .i64 (l2.length : Int) := (HV.out.2.2.2.2.2.2.2.2.2.2.1) (by simp [hd])
          have e14 : (z 28) = .int .i64 (l2.length : Int) := (HV.out.2.2.2.2.2.2.2.2.2.2.2.2.2.2.1) (by simp [hd])
          clear hd
          go_simp
          have V := HV.out
          exact hK _ _ ⟨fun s => if s = 29 then .bool false else if s = 21 then .bool false else if s = 24 then .int .i64 (l2.length : Int) else if s = 28 then .int .i64 (l2.length : Int) else z s, rfl, Lib.hid ⟨V.1, V.2.1, V.2.2.1, V.2.2.2.1, V.2.2.2.2.1, V.2.2.2.2.2.1, V.2.2.2.2.2.2.1, fun _ => rfl, V.2.2.2.2.2.2.2.2.1, V.2.2.2.2.2.2.2.2.2.1, fun _ => rfl, V.2.2.2.2.2.2.2.2.2.2.2.1, V.2.2.2.2.2.2.2.2.2.2.2.2.1, V.2.2.2.2.2.2.2.2.2.2.2.2.2.1, fun _ => rfl, fun _ => rfl, V.2.2.2.2.2.2.2.2.2.2.2.2.2.2.2.2.1, V.2.2.2.2.2.2.2.2.2.2.2.2.2.2.2.2.2.1, V.2.2.2.2.2.2.2.2.2.2.2.2.2.2.2.2.2.2.1, V.2.2.2.2.2.2.2.2.2.2.2.2.2.2.2.2.2.2.2.1, V.2.2.2.2.2.2.2.2.2.2.2.2.2.2.2.2.2.2.2.2⟩, HW, HX⟩
        · rintro b a wy hb hd ⟨z, rfl, HV, HW, HX⟩ K hK
          simp [Region.binds] at hd
          have e7 : (z 21) = .bool false := (HV.out.2.2.2.2.2.2.2.1) (by simp [hd])
          have e15 : (z 29) = .bool false := (HV.out.2.2.2.2.2.2.2.2.2.2.2.2.2.2.2.1) (by simp [hd])
          clear hd
          go_simp
          have V := HV.out
          exact hK _ _ ⟨fun s => if s = 30 then .bool false else if s = 21 then .bool false else if s = 29 then .bool false else z s, rfl, Lib.hid ⟨V.1, V.2.1, V.2.2.1, V.2.2.2.1, V.2.2.2.2.1, V.2.2.2.2.2.1, V.2.2.2.2.2.2.1, fun _ => rfl, V.2.2.2.2.2.2.2.2.1, V.2.2.2.2.2.2.2.2.2.1, V.2.2.2.2.2.2.2.2.2.2.1, V.2.2.2.2.2.2.2.2.2.2.2.1, V.2.2.2.2.2.2.2.2.2.2.2.2.1, V.2.2.2.2.2.2.2.2.2.2.2.2.2.1, V.2.2.2.2.2.2.2.2.2.2.2.2.2.2.1, fun _ => rfl, fun _ => rfl, V.2.2.2.2.2.2.2.2.2.2.2.2.2.2.2.2.2.1, V.2.2.2.2.2.2.2.2.2.2.2.2.2.2.2.2.2.2.1, V.2.2.2.2.2.2.2.2.2.2.2.2.2.2.2.2.2.2.2.1, V.2.2.2.2.2.2.2.2.2.2.2.2.2.2.2.2.2.2.2.2⟩, HW, HX⟩
        · rintro b a wy hb hd ⟨z, rfl, HV, HW, HX⟩ K hK
          simp [Region.binds] at hd
          have e16 : (z 30) = .bool false := (HV.out.2.2.2.2.2.2.2.2.2.2.2.2.2.2.2.2.1) (by simp [hd])
          clear hd
          go_simp
          have V := HV.out
          exact hK _ _ ⟨fun s => if s = 31 then .bool false else if s = 30 then .bool false else z s, rfl, Lib.hid ⟨V.1, V.2.1, V.2.2.1, V.2.2.2.1, V.2.2.2.2.1, V.2.2.2.2.2.1, V.2.2.2.2.2.2.1, V.2.2.2.2.2.2.2.1, V.2.2.2.2.2.2.2.2.1, V.2.2.2.2.2.2.2.2.2.1, V.2.2.2.2.2.2.2.2.2.2.1, V.2.2.2.2.2.2.2.2.2.2.2.1, V.2.2.2.2.2.2.2.2.2.2.2.2.1, V.2.2.2.2.2.2.2.2.2.2.2.2.2.1, V.2.2.2.2.2.2.2.2.2.2.2.2.2.2.1, V.2.2.2.2.2.2.2.2.2.2.2.2.2.2.2.1, fun _ => rfl, fun _ => rfl, V.2.2.2.2.2.2.2.2.2.2.2.2.2.2.2.2.2.2.1, V.2.2.2.2.2.2.2.2.2.2.2.2.2.2.2.2.2.2.2.1, V.2.2.2.2.2.2.2.2.2.2.2.2.2.2.2.2.2.2.2.2⟩, HW, HX⟩
        · rintro b a wy hb hd ⟨z, rfl, HV, HW, HX⟩ K hK
          simp [Region.binds] at hd
          have e17 : (z 31) = .bool false := (HV.out.2.2.2.2.2.2.2.2.2.2.2.2.2.2.2.2.2.1) (by simp [hd])
          clear hd
          go_simp
          have V := HV.out
          exact hK _ _ ⟨fun s => if s = 32 then .slice A6 (l1.length + l2.length) c6 else if s = 31 then .bool false else z s, rfl, Lib.hid ⟨V.1, V.2.1, V.2.2.1, V.2.2.2.1, V.2.2.2.2.1, V.2.2.2.2.2.1, V.2.2.2.2.2.2.1, V.2.2.2.2.2.2.2.1, V.2.2.2.2.2.2.2.2.1, V.2.2.2.2.2.2.2.2.2.1, V.2.2.2.2.2.2.2.2.2.2.1, V.2.2.2.2.2.2.2.2.2.2.2.1, V.2.2.2.2.2.2.2.2.2.2.2.2.1, V.2.2.2.2.2.2.2.2.2.2.2.2.2.1, V.2.2.2.2.2.2.2.2.2.2.2.2.2.2.1, V.2.2.2.2.2.2.2.2.2.2.2.2.2.2.2.1, V.2.2.2.2.2.2.2.2.2.2.2.2.2.2.2.2.1, fun _ => rfl, fun _ => rfl, V.2.2.2.2.2.2.2.2.2.2.2.2.2.2.2.2.2.2.2.1, V.2.2.2.2.2.2.2.2.2.2.2.2.2.2.2.2.2.2.2.2⟩, HW, HX⟩
        · rintro b a wy hb hd ⟨z, rfl, HV, HW, HX⟩ K hK
          simp [Region.binds] at hd
          have e17 : (z 31) = .bool false := (HV.out.2.2.2.2.2.2.2.2.2.2.2.2.2.2.2.2.2.1) (by simp [hd])
          have e18 : (z 32) = .slice A6 (l1.length + l2.length) c6 := (HV.out.2.2.2.2.2.2.2.2.2.2.2.2.2.2.2.2.2.2.1) (by simp [hd])
          clear hd
          go_simp
          go_at_call 60
          refine (twice_no HX.out.2.1 (by have := HP.out; rw [HLE.out]; omega) HLE.out htw).mono ?_
          rintro e wz ⟨rfl, kz⟩
          try go_simp
          have V := HV.out
          exact hK _ _ ⟨fun s => if s = 33 then .bool false else if s = 31 then .bool false else if s = 32 then .slice A6 (l1.length + l2.length) c6 else z s, rfl, Lib.hid ⟨V.1, V.2.1, V.2.2.1, V.2.2.2.1, V.2.2.2.2.1, V.2.2.2.2.2.1, V.2.2.2.2.2.2.1, V.2.2.2.2.2.2.2.1, V.2.2.2.2.2.2.2.2.1, V.2.2.2.2.2.2.2.2.2.1, V.2.2.2.2.2.2.2.2.2.2.1, V.2.2.2.2.2.2.2.2.2.2.2.1, V.2.2.2.2.2.2.2.2.2.2.2.2.1, V.2.2.2.2.2.2.2.2.2.2.2.2.2.1, V.2.2.2.2.2.2.2.2.2.2.2.2.2.2.1, V.2.2.2.2.2.2.2.2.2.2.2.2.2.2.2.1, V.2.2.2.2.2.2.2.2.2.2.2.2.2.2.2.2.1, fun _ => rfl, fun _ => rfl, fun _ => rfl, V.2.2.2.2.2.2.2.2.2.2.2.2.2.2.2.2.2.2.2.2⟩, Lib.hid (HW.out.trans (kz.mono HW.out.size)), Lib.hid ⟨HX.out.1.below HX.out.1.lt kz, HX.out.2.1.below kz, HX.out.2.2.below kz⟩⟩
        · rintro b a wy hb hd ⟨z, rfl, HV, HW, HX⟩ K hK
          simp [Region.binds] at hd
          have e17 : (z 31) = .bool false := (HV.out.2.2.2.2.2.2.2.2.2.2.2.2.2.2.2.2.2.1) (by simp [hd])
          have e19 : (z 33) = .bool false := (HV.out.2.2.2.2.2.2.2.2.2.2.2.2.2.2.2.2.2.2.2.1) (by simp [hd])
          clear hd
          go_simp
          have V := HV.out
          exact hK _ _ ⟨fun s => if s = 34 then .bool false else if s = 31 then .bool false else if s = 33 then .bool false else z s, rfl, Lib.hid ⟨V.1, V.2.1, V.2.2.1, V.2.2.2.1, V.2.2.2.2.1, V.2.2.2.2.2.1, V.2.2.2.2.2.2.1, V.2.2.2.2.2.2.2.1, V.2.2.2.2.2.2.2.2.1, V.2.2.2.2.2.2.2.2.2.1, V.2.2.2.2.2.2.2.2.2.2.1, V.2.2.2.2.2.2.2.2.2.2.2.1, V.2.2.2.2.2.2.2.2.2.2.2.2.1, V.2.2.2.2.2.2.2.2.2.2.2.2.2.1, V.2.2.2.2.2.2.2.2.2.2.2.2.2.2.1, V.2.2.2.2.2.2.2.2.2.2.2.2.2.2.2.1, V.2.2.2.2.2.2.2.2.2.2.2.2.2.2.2.2.1, fun _ => rfl, V.2.2.2.2.2.2.2.2.2.2.2.2.2.2.2.2.2.2.1, fun _ => rfl, fun _ => rfl⟩, HW, HX⟩
      case doneR3 =>
        rintro b a w3 hb ⟨z, rfl, HV, HW, HX⟩
        have e0 := (HV.out.1) (hb 0)
        have e1 := (HV.out.2.1) (hb 1)
        have e2 := (HV.out.2.2.1) (hb 2)
        have e3 := (HV.out.2.2.2.1) (hb 3)
        have e4 := (HV.out.2.2.2.2.1) (hb 4)
        have e5 := (HV.out.2.2.2.2.2.1) (hb 5)
        have e6 := (HV.out.2.2.2.2.2.2.1) (hb 6)
        have e7 := (HV.out.2.2.2.2.2.2.2.1) (hb 7)
        have e8 := (HV.out.2.2.2.2.2.2.2.2.1) (hb 8)
        have e9 := (HV.out.2.2.2.2.2.2.2.2.2.1) (hb 9)
        have e10 := (HV.out.2.2.2.2.2.2.2.2.2.2.1) (hb 10)
        have e11 := (HV.out.2.2.2.2.2.2.2.2.2.2.2.1) (hb 11)
        have e12 := (HV.out.2.2.2.2.2.2.2.2.2.2.2.2.1) (hb 12)
        have e13 := (HV.out.2.2.2.2.2.2.2.2.2.2.2.2.2.1) (hb 13)
        have e14 := (HV.out.2.2.2.2.2.2.2.2.2.2.2.2.2.2.1) (hb 14)
        have e15 := (HV.out.2.2.2.2.2.2.2.2.2.2.2.2.2.2.2.1) (hb 15)
        have e16 := (HV.out.2.2.2.2.2.2.2.2.2.2.2.2.2.2.2.2.1) (hb 16)
        have e17 := (HV.out.2.2.2.2.2.2.2.2.2.2.2.2.2.2.2.2.2.1) (hb 17)
        have e18 := (HV.out.2.2.2.2.2.2.2.2.2.2.2.2.2.2.2.2.2.2.1) (hb 18)
        have e19 := (HV.out.2.2.2.2.2.2.2.2.2.2.2.2.2.2.2.2.2.2.2.1) (hb 19)
        have e20 := (HV.out.2.2.2.2.2.2.2.2.2.2.2.2.2.2.2.2.2.2.2.2) (hb 20)
        simp only [e0, e1, e2, e3, e4, e5, e6, e7, e8, e9, e10, e11, e12, e13, e14, e15, e16, e17, e18, e19, e20]
        clear HV e0 e1 e2 e3 e4 e5 e6 e7 e8 e9 e10 e11 e12 e13 e14 e15 e16 e17 e18 e19 e20
        have HT3 := Lib.hid HX.out.2.1
        have HA3 := Lib.hid HX.out.2.2
        have HB3 := Lib.hid (HB2.out.trans (HW.out.mono HB2.out.size))
        have HTW := Lib.hid htw
        clear HX HW hb htw HR2 HT HA2 HB2 hb1 hb2
        obtain ⟨ll, hll⟩ : ∃ ll, ll = l1.length + l2.length := ⟨_, rfl⟩
        have hli : (l1.length : Int) + (l2.length : Int) = (ll : Int) := by omega
        have HLI := Lib.hid (HLE.out.trans hll.symm)
        have hl9 : ll ≤ 200 := by have := HP.out; omega
        rw [← hll]
        clear hll hli
        go_wp2_with fail
        go_loopw [6] (fun i wr => (∃ k : Nat, k ≤ ll ∧ i = .int .i64 (k : Int) ∧ Hid (∀ j, j < k → okB sx ((l1 ++ l2).getD j 0))) ∧ wr = w3) (fun i _ => ll - (Go.RowKit.intOf i).toNat)
        case atStart => exact ⟨⟨0, Nat.zero_le _, rfl, Lib.hid (fun j h => by omega)⟩, rfl⟩
        case round =>
          obtain ⟨⟨k, hk, rfl, HO⟩, hwr⟩ := hrel
          subst hwr
          by_cases hkl : k < ll
          · have hki : (k : Int) < (ll : Int) := by omega
            obtain ⟨b9, o9, rfl, _, ck⟩ := told_nat HT3.out (show k < (l1 ++ l2).length by rw [HLI.out]; exact hkl)
            obtain ⟨y, hy⟩ : ∃ y, y = (l1 ++ l2).getD k 0 := ⟨_, rfl⟩
            rw [← hy] at ck
            have HY := Lib.hid hy
            have hy0 : ¬ ((y : Int) < 0) := by omega
            clear hy
            by_cases hyn : y < sx.n
            · have hyi : ¬ ((sx.n : Int) ≤ (y : Int)) := by omega
              by_cases hz : y = 0
              · subst hz
                go_wp2_with fail
                go_roundw
                case rel =>
                  refine ⟨⟨k + 1, by omega, by go_num, Lib.hid (fun j h1 => ?_)⟩, trivial⟩
                  rcases Nat.lt_or_ge j k with h4 | h4
                  · exact HO.out j h4
                  · obtain rfl : j = k := by omega
                    exact .inl HY.out.symm
                case measure => simp [Go.RowKit.intOf]; omega
              · have hyp : (0 : Int) < (y : Int) := by omega
                have cn := HA3.out.cnt hyn
                obtain ⟨cv, hcv⟩ : ∃ cv, cv = (sx.cnt y).toNat := ⟨_, rfl⟩
                rw [← hcv] at cn
                have HCV := Lib.hid hcv
                have HYN := Lib.hid hyn
                clear hcv hz
                by_cases hc0 : cv = 0
                · subst hc0
                  go_wp2_with fail
                  go_ret
                  refine Bo.no (fun hh => ?_) HB3.out
                  have h1 := (HRI.out.1 hh).2 k (by rw [HLI.out]; exact hkl)
                  rw [← HY.out] at h1
                  rcases h1 with h1 | h1
                  · omega
                  · exact h1.2 (UInt16.toNat_inj.1 (by rw [← HCV.out]; rfl))
                · have hci : ¬ ((cv : Int) = 0) := by omega
                  go_wp2_with fail
                  go_roundw
                  case rel =>
                    refine ⟨⟨k + 1, by omega, by go_num, Lib.hid (fun j h1 => ?_)⟩, trivial⟩
                    rcases Nat.lt_or_ge j k with h4 | h4
                    · exact HO.out j h4
                    · obtain rfl : j = k := by omega
                      rw [← HY.out]
                      exact .inr ⟨HYN.out, fun e => hc0 (by rw [HCV.out, e]; rfl)⟩
                  case measure => simp [Go.RowKit.intOf]; omega
            · have hyi : (sx.n : Int) ≤ (y : Int) := by omega
              have HYN := Lib.hid hyn
              go_wp2_with fail
              go_ret
              refine Bo.no (fun hh => ?_) HB3.out
              have h1 := (HRI.out.1 hh).2 k (by rw [HLI.out]; exact hkl)
              rw [← HY.out] at h1
              rcases h1 with h1 | h1
              · omega
              · exact HYN.out h1.1
          · have hki : ¬ (k : Int) < (ll : Int) := by omega
            obtain rfl : k = ll := by omega
            go_wp2_with fail
            go_ret
            exact Bo.yes (HRI.out.2 ⟨HTW.out, fun i hi => HO.out i (by rw [← HLI.out]; exact hi)⟩) HB3.out
end Go.Proofs.Ytlemjegngnfanaa.Pl

/- The reference's place: moved. (Written by bin/gen_plrd.py.) -/
namespace Go.Proofs.Ytlemjegngnfanaa.Pl
open Go.RowKit Go.Proofs.Ytlemjegngnfanaa.Oct Go.Proofs.Ytlemjegngnfanaa.Mv Go.Proofs.Ytlemjegngnfanaa.Tl Go.Proofs.Ytlemjegngnfanaa.Pk Go.Maps
set_option linter.unusedVariables false

theorem state_zero (w : World) : (zeroValue 57).run Try.prog w = .ok (.agg #[.slice none 0 0, .slice none 0 0, .int .i64 0, .int .i64 0, .int .i64 0, .slice none 0 0, .slice none 0 0, .slice none 0 0, .slice none 0 0]) w := by kernel_rfl
theorem setRow_row {w : World} {g : Nat} {T : TypeId} {vs : List Value} (us : List Value) (h : RowV w g T vs) : RowV (w.setRow g us.toArray) g T us := setRow_heap w g vs.toArray us.toArray T (0, 0) h
theorem setRow_but (w : World) (g : Nat) (cs : Array Value) : ButL w (w.setRow g cs) [g] := ⟨rfl, rfl, rfl, by simp, fun k _ hm => setRow_other w g k _ (by simpa using hm)⟩
theorem RAt.butL {w w' : World} {b1 c1 b2 c2 g : Nat} {s : St} (h : RAt w b1 c1 b2 c2 s) (k : ButL w w' [g]) (h1 : b1 ≠ g) (h2 : b2 ≠ g) : RAt w' b1 c1 b2 c2 s :=
  ⟨h.now.block (k.block _ h.lt1 (by simp; exact h1)), h.kept.block (k.block _ h.lt2 (by simp; exact h2)), h.ok⟩
theorem RowV.butL {w w' : World} {r g : Nat} {T : TypeId} {vs : List Value} (h : RowV w r T vs) (k : ButL w w' [g]) (hn : r ≠ g) : RowV w' r T vs := h.block (k.block _ h.lt (by simp; exact hn))
/-- A row of counts lies nowhere where slices lie. -/
theorem RAt.off_row {w : World} {b1 c1 b2 c2 x : Nat} {s : St} {T : TypeId} {A : Option Addr} {n c : Nat} {vs : List Value} (h : RAt w b1 c1 b2 c2 s) (k : RowV w x T (.slice A n c :: vs)) : b1 ≠ x ∧ b2 ≠ x := by
  have h0 : 0 < s.n := h.ok.lo
  have q1 := h.cnt h0
  have q2 := h.was h0
  have q3 := k.cellAt (i := 0) rfl
  constructor
  · rintro rfl; rw [q1] at q3; simp at q3
  · rintro rfl; rw [q2] at q3; simp at q3
set_option maxRecDepth 100000 in
set_option maxHeartbeats 4000000 in
theorem rmoved_any {w : World} {b1 c1 b2 c2 n : Nat} {q : Q} (h : RAt w b1 c1 b2 c2 q.s) (hok : q.Ok) (hn : q.s.n = n) (A5 A6 A7 A8 : Option Addr) (n5 n6 n7 n8 c5 c6 c7 c8 : Nat) (old : Nat) (hm : May1 q old) (hr : 0 < q.room) :
    Calls Try.prog 62 #[.agg #[.slice (some ⟨b1, 0, none⟩) n c1, .slice (some ⟨b2, 0, none⟩) n c2, .int .i64 (q.first : Int), .int .i64 (q.next : Int), .int .i64 (q.asked : Int), .slice A5 n5 c5, .slice A6 n6 c6, .slice A7 n7 c7, .slice A8 n8 c8], .int .i64 (old : Int)] w fun e w' => ∃ (q' : Q) (b k1 e1 : Nat), e = .returned (.tuple #[.agg #[.slice (some ⟨k1, 0, none⟩) n e1, .slice (some ⟨b2, 0, none⟩) n c2, .int .i64 (q'.first : Int), .int .i64 (q'.next : Int), .int .i64 (q'.asked : Int), .slice A5 n5 c5, .slice A6 n6 c6, .slice A7 n7 c7, .slice A8 n8 c8], .int .i64 (b : Int)]) ∧ Moved q old q' b ∧ RAt w' k1 e1 b2 c2 q'.s ∧ w.heap.size ≤ k1 ∧ Below w.heap.size w w' := by
  have hz := state_zero
  have B1 := box_below w (.cells #[.slice (some ⟨b1, 0, none⟩) n c1, .slice (some ⟨b2, 0, none⟩) n c2, .int .i64 (q.first : Int), .int .i64 (q.next : Int), .int .i64 (q.asked : Int), .slice A5 n5 c5, .slice A6 n6 c6, .slice A7 n7 c7, .slice A8 n8 c8] 57)
  have R1 := alloc_rowV w 57 [.slice (some ⟨b1, 0, none⟩) n c1, .slice (some ⟨b2, 0, none⟩) n c2, .int .i64 (q.first : Int), .int .i64 (q.next : Int), .int .i64 (q.asked : Int), .slice A5 n5 c5, .slice A6 n6 c6, .slice A7 n7 c7, .slice A8 n8 c8]
  have hs1 : (w.alloc (.cells #[.slice (some ⟨b1, 0, none⟩) n c1, .slice (some ⟨b2, 0, none⟩) n c2, .int .i64 (q.first : Int), .int .i64 (q.next : Int), .int .i64 (q.asked : Int), .slice A5 n5 c5, .slice A6 n6 c6, .slice A7 n7 c7, .slice A8 n8 c8] 57)).heap.size = w.heap.size + 1 := by simp
  have Z1 := box_below (w.alloc (.cells #[.slice (some ⟨b1, 0, none⟩) n c1, .slice (some ⟨b2, 0, none⟩) n c2, .int .i64 (q.first : Int), .int .i64 (q.next : Int), .int .i64 (q.asked : Int), .slice A5 n5 c5, .slice A6 n6 c6, .slice A7 n7 c7, .slice A8 n8 c8] 57)) (.cells #[.slice none 0 0, .slice none 0 0, .int .i64 0, .int .i64 0, .int .i64 0, .slice none 0 0, .slice none 0 0, .slice none 0 0, .slice none 0 0] 57)
  have R2 := alloc_rowV (w.alloc (.cells #[.slice (some ⟨b1, 0, none⟩) n c1, .slice (some ⟨b2, 0, none⟩) n c2, .int .i64 (q.first : Int), .int .i64 (q.next : Int), .int .i64 (q.asked : Int), .slice A5 n5 c5, .slice A6 n6 c6, .slice A7 n7 c7, .slice A8 n8 c8] 57)) 57 [.slice none 0 0, .slice none 0 0, .int .i64 0, .int .i64 0, .int .i64 0, .slice none 0 0, .slice none 0 0, .slice none 0 0, .slice none 0 0]
  have HX := Lib.hid (R1.below R1.lt Z1)
  rw [hs1] at R2
  have HY := Lib.hid R2
  have HB := Lib.hid (B1.trans (Z1.mono B1.size))
  have HA := Lib.hid (h.below (B1.trans (Z1.mono B1.size)))
  have HOK := Lib.hid hok
  have HN := Lib.hid hn
  have HM := Lib.hid hm
  have HRM := Lib.hid hr
  clear h hok hn hm hr B1 R1 Z1 R2 hs1
  go_enter Try.func62, Try.ntmps62
  go_upto_region 1 with (fail)
  clear hz
  generalize (w.alloc (.cells #[.slice (some ⟨b1, 0, none⟩) n c1, .slice (some ⟨b2, 0, none⟩) n c2, .int .i64 (q.first : Int), .int .i64 (q.next : Int), .int .i64 (q.asked : Int), .slice A5 n5 c5, .slice A6 n6 c6, .slice A7 n7 c7, .slice A8 n8 c8] 57)).alloc (.cells #[.slice none 0 0, .slice none 0 0, .int .i64 0, .int .i64 0, .int .i64 0, .slice none 0 0, .slice none 0 0, .slice none 0 0, .slice none 0 0] 57) = w1 at *
  obtain ⟨x, hx⟩ : ∃ x, x = w.heap.size := ⟨_, rfl⟩
  obtain ⟨y, hy⟩ : ∃ y, y = w.heap.size + 1 := ⟨_, rfl⟩
  rw [← hy] at HY ⊢
  rw [← hx] at HX
  simp only [← hx]
  have HXY := Lib.hid (show x ≠ y ∧ w.heap.size ≤ x ∧ w.heap.size ≤ y by omega)
  clear hx hy
  have hcut : ∀ (wx : World) (k1 e1 : Nat) (p : Q), True := fun _ _ _ _ => trivial
  clear hcut
  by_cases h0 : old = 0
  · subst h0
    have HPQ := Lib.hid (show q = down1 q 0 from (down1_zero q).symm)
    have hfa : q.first = q.first ∧ q.asked = q.asked ∧ q.next = q.next := ⟨rfl, rfl, rfl⟩
    have hdn : q.s.n = n := by rw [HPQ.out, down1_n HM.out]; exact HN.out
    have hc0 := HX.out.cellAt (i := 0) rfl
    have hc1 := HX.out.cellAt (i := 1) rfl
    have hc2 := HX.out.cellAt (i := 2) rfl
    have hc3 := HX.out.cellAt (i := 3) rfl
    have hc4 := HX.out.cellAt (i := 4) rfl
    have hf0 := HX.out.free 0
    have hf1 := HX.out.free 1
    have hf2 := HX.out.free 2
    have hf3 := HX.out.free 3
    have hf4 := HX.out.free 4
    have HTK := Lib.hid (rtake_new HA.out (show q.Ok from by rw [HPQ.out]; exact down1_ok HOK.out HM.out) (show 0 < q.room from by rw [HPQ.out]; exact Nat.lt_of_lt_of_le HRM.out (down1_room HM.out)))
    unfold rpv at HTK
    rw [hdn, hfa.1, hfa.2.1, hfa.2.2] at HTK
    clear hfa
    go_wp2_with fail
    refine HTK.out.mono ?_
    rintro e w3 ⟨b, k1, l1, rfl, hfo, hra, hbe, hfr⟩
    obtain ⟨q', hq'⟩ : ∃ q', q' = q.took b := ⟨_, rfl⟩
    have hn' : (q.took b).s.n = n := by rw [n_took]; exact hdn
    rw [hn']
    rw [← hq'] at hra ⊢
    have HQ' := Lib.hid hq'
    have HMV := Lib.hid (show Moved q 0 q' b from ⟨by rw [down1_zero]; exact hfo, by rw [down1_zero]; exact HQ'.out⟩)
    have HX3 := Lib.hid (HX.out.below HX.out.lt hbe)
    have HY3 := Lib.hid (HY.out.below HY.out.lt hbe)
    have HB3 := Lib.hid (HB.out.trans (hbe.mono HB.out.size))
    have HA3 := Lib.hid hra
    have HK := Lib.hid (Nat.le_trans HB.out.size hfr)
    have ho := RAt.off_row HA3.out HX3.out
    have ho2 := RAt.off_row HA3.out HY3.out
    have HO := Lib.hid (And.intro ho ho2)
    clear hc0 hc1 hc2 hc3 hc4 hf0 hf1 hf2 hf3 hf4 hra hbe hfr hfo hq' hn' HQ' HX HY HB HA HTK ho ho2 hdn
    have hf0 := HX3.out.free 0
    have hf1 := HX3.out.free 1
    have hf2 := HX3.out.free 2
    have hf3 := HX3.out.free 3
    have hf4 := HX3.out.free 4
    have hc0 := HX3.out.cellAt (i := 0) rfl
    have hc1 := HX3.out.cellAt (i := 1) rfl
    have hc2 := HX3.out.cellAt (i := 2) rfl
    have hc3 := HX3.out.cellAt (i := 3) rfl
    have hc4 := HX3.out.cellAt (i := 4) rfl
    go_upto_region 5 with (fail)
    have HU := Lib.hid (((((ButL.set w3 x 0 (.slice (some ⟨k1, 0, none⟩) n l1)).trans (ButL.set _ x 1 (.slice (some ⟨b2, 0, none⟩) n c2))).trans (ButL.set _ x 2 (.int .i64 (q'.first : Int)))).trans (ButL.set _ x 3 (.int .i64 (q'.next : Int)))).trans (ButL.set _ x 4 (.int .i64 (q'.asked : Int))))
    have HX4 := Lib.hid (show RowV (((((w3.setCell ⟨x, 0, none⟩ (.slice (some ⟨k1, 0, none⟩) n l1)).setCell ⟨x, 1, none⟩ (.slice (some ⟨b2, 0, none⟩) n c2)).setCell ⟨x, 2, none⟩ (.int .i64 (q'.first : Int))).setCell ⟨x, 3, none⟩ (.int .i64 (q'.next : Int))).setCell ⟨x, 4, none⟩ (.int .i64 (q'.asked : Int))) x 57 [.slice (some ⟨k1, 0, none⟩) n l1, .slice (some ⟨b2, 0, none⟩) n c2, .int .i64 (q'.first : Int), .int .i64 (q'.next : Int), .int .i64 (q'.asked : Int), .slice A5 n5 c5, .slice A6 n6 c6, .slice A7 n7 c7, .slice A8 n8 c8] from (((((HX3.out.set 0 (.slice (some ⟨k1, 0, none⟩) n l1)).set 1 (.slice (some ⟨b2, 0, none⟩) n c2)).set 2 (.int .i64 (q'.first : Int))).set 3 (.int .i64 (q'.next : Int))).set 4 (.int .i64 (q'.asked : Int))))
    have HA4 := Lib.hid (RAt.butL HA3.out HU.out HO.out.1.1 HO.out.1.2)
    have HY4 := Lib.hid (RowV.butL HY3.out HU.out (Ne.symm HXY.out.1))
    have HB4 := Lib.hid (HB3.out.trans (HU.out.below (B := w.heap.size) (by simp; exact HXY.out.2.1) HB3.out.size))
    clear HU HX3 HY3 HA3 HB3 hf0 hf1 hf2 hf3 hf4 hc0 hc1 hc2 hc3 hc4
    generalize (((((w3.setCell ⟨x, 0, none⟩ (.slice (some ⟨k1, 0, none⟩) n l1)).setCell ⟨x, 1, none⟩ (.slice (some ⟨b2, 0, none⟩) n c2)).setCell ⟨x, 2, none⟩ (.int .i64 (q'.first : Int))).setCell ⟨x, 3, none⟩ (.int .i64 (q'.next : Int))).setCell ⟨x, 4, none⟩ (.int .i64 (q'.asked : Int))) = w4 at *
    have HSZ := Lib.hid (show (Try.prog.info? 57).map (·.size) = some 9 from by kernel_rfl)
    go_wp2_with (first
      | (refine wpList_load_row rfl 57 (.tmp 2) rfl x rfl _ #[.slice (some ⟨k1, 0, none⟩) n l1, .slice (some ⟨b2, 0, none⟩) n c2, .int .i64 (q'.first : Int), .int .i64 (q'.next : Int), .int .i64 (q'.asked : Int), .slice A5 n5 c5, .slice A6 n6 c6, .slice A7 n7 c7, .slice A8 n8 c8] _ _ HX4.out Try.underlying57 rfl HSZ.out ?_)
      | (refine wpList_store_row rfl 57 (.tmp 4) (.tmp 27) rfl y #[.slice (some ⟨k1, 0, none⟩) n l1, .slice (some ⟨b2, 0, none⟩) n c2, .int .i64 (q'.first : Int), .int .i64 (q'.next : Int), .int .i64 (q'.asked : Int), .slice A5 n5 c5, .slice A6 n6 c6, .slice A7 n7 c7, .slice A8 n8 c8] rfl rfl _ _ HY4.out HSZ.out rfl (by simp [Value.oneCell']) ?_)
      | fail)
    have HY5 := Lib.hid (setRow_row [.slice (some ⟨k1, 0, none⟩) n l1, .slice (some ⟨b2, 0, none⟩) n c2, .int .i64 (q'.first : Int), .int .i64 (q'.next : Int), .int .i64 (q'.asked : Int), .slice A5 n5 c5, .slice A6 n6 c6, .slice A7 n7 c7, .slice A8 n8 c8] HY4.out)
    have HA5 := Lib.hid (RAt.butL HA4.out (setRow_but w4 y #[.slice (some ⟨k1, 0, none⟩) n l1, .slice (some ⟨b2, 0, none⟩) n c2, .int .i64 (q'.first : Int), .int .i64 (q'.next : Int), .int .i64 (q'.asked : Int), .slice A5 n5 c5, .slice A6 n6 c6, .slice A7 n7 c7, .slice A8 n8 c8]) HO.out.2.1 HO.out.2.2)
    have HB5 := Lib.hid (HB4.out.trans ((setRow_but w4 y #[.slice (some ⟨k1, 0, none⟩) n l1, .slice (some ⟨b2, 0, none⟩) n c2, .int .i64 (q'.first : Int), .int .i64 (q'.next : Int), .int .i64 (q'.asked : Int), .slice A5 n5 c5, .slice A6 n6 c6, .slice A7 n7 c7, .slice A8 n8 c8]).below (B := w.heap.size) (by simp; exact HXY.out.2.2) HB4.out.size))
    refine bodyPost_ret (v := .tuple #[.agg #[.slice (some ⟨k1, 0, none⟩) n l1, .slice (some ⟨b2, 0, none⟩) n c2, .int .i64 (q'.first : Int), .int .i64 (q'.next : Int), .int .i64 (q'.asked : Int), .slice A5 n5 c5, .slice A6 n6 c6, .slice A7 n7 c7, .slice A8 n8 c8], .int .i64 (b : Int)]) ?_ rfl ⟨q', b, k1, l1, rfl, HMV.out, HA5.out, HK.out, HB5.out⟩
    clear HA5 HB5
    have hc0 := HY5.out.cellAt (i := 0) rfl
    have hc1 := HY5.out.cellAt (i := 1) rfl
    have hc2 := HY5.out.cellAt (i := 2) rfl
    have hc3 := HY5.out.cellAt (i := 3) rfl
    have hc4 := HY5.out.cellAt (i := 4) rfl
    have hc5 := HY5.out.cellAt (i := 5) rfl
    have hc6 := HY5.out.cellAt (i := 6) rfl
    have hc7 := HY5.out.cellAt (i := 7) rfl
    have hc8 := HY5.out.cellAt (i := 8) rfl
    rw [results_cell_tmp rfl]
    go_simp
  · have h0i : ((old : Int) != 0) = true := by simp; omega
    have hmm := HM.out h0
    have hc0 := HX.out.cellAt (i := 0) rfl
    have hc1 := HX.out.cellAt (i := 1) rfl
    have hf0 := HX.out.free 0
    have hf1 := HX.out.free 1
    have HMM := Lib.hid hmm
    have HAD := Lib.hid (radd_down_new HA.out old hmm.1 hmm.2)
    unfold rval at HAD
    rw [HN.out] at HAD
    have HH0 := Lib.hid h0
    clear h0 hmm
    go_wp2_with fail
    refine HAD.out.mono ?_
    rintro e w2 ⟨d1, e1, rfl, hra, hbe, hfr⟩
    have HX2 := Lib.hid (HX.out.below HX.out.lt hbe)
    have HY2 := Lib.hid (HY.out.below HY.out.lt hbe)
    have HB2 := Lib.hid (HB.out.trans (hbe.mono HB.out.size))
    have HA2 := Lib.hid (show RAt w2 d1 e1 b2 c2 (down1 q old).s from by rw [down1_pos HH0.out HM.out]; exact hra)
    clear hc0 hc1 hf0 hf1 hra hbe hfr HX HY HB HA HAD
    have hf0 := HX2.out.free 0
    have hf1 := HX2.out.free 1
    have hc0 := HX2.out.cellAt (i := 0) rfl
    have hc1 := HX2.out.cellAt (i := 1) rfl
    go_upto_region 3 with (fail)
    have HU := Lib.hid ((ButL.set w2 x 0 (.slice (some ⟨d1, 0, none⟩) n e1)).trans (ButL.set _ x 1 (.slice (some ⟨b2, 0, none⟩) n c2)))
    have HX := Lib.hid ((HX2.out.set 0 (.slice (some ⟨d1, 0, none⟩) n e1)).set 1 (.slice (some ⟨b2, 0, none⟩) n c2))
    have ho := RAt.off_row HA2.out HX2.out
    have HA := Lib.hid (RAt.butL HA2.out HU.out ho.1 ho.2)
    have HY := Lib.hid (RowV.butL HY2.out HU.out (Ne.symm HXY.out.1))
    have HB := Lib.hid (HB2.out.trans (HU.out.below (B := w.heap.size) (by simp; exact HXY.out.2.1) HB2.out.size))
    clear ho HU HX2 HY2 HA2 HB2 hf0 hf1 hc0 hc1 h0i
    generalize (w2.setCell ⟨x, 0, none⟩ (.slice (some ⟨d1, 0, none⟩) n e1)).setCell ⟨x, 1, none⟩ (.slice (some ⟨b2, 0, none⟩) n c2) = w1 at *
    have HPQ := Lib.hid (show (down1 q old) = down1 q old from rfl)
    have hfa : (down1 q old).first = q.first ∧ (down1 q old).asked = q.asked ∧ (down1 q old).next = q.next := ⟨down1_first q old, down1_asked q old, (by unfold down1; split <;> rfl)⟩
    have hdn : (down1 q old).s.n = n := by rw [HPQ.out, down1_n HM.out]; exact HN.out
    have hc0 := HX.out.cellAt (i := 0) rfl
    have hc1 := HX.out.cellAt (i := 1) rfl
    have hc2 := HX.out.cellAt (i := 2) rfl
    have hc3 := HX.out.cellAt (i := 3) rfl
    have hc4 := HX.out.cellAt (i := 4) rfl
    have hf0 := HX.out.free 0
    have hf1 := HX.out.free 1
    have hf2 := HX.out.free 2
    have hf3 := HX.out.free 3
    have hf4 := HX.out.free 4
    have HTK := Lib.hid (rtake_new HA.out (show (down1 q old).Ok from by rw [HPQ.out]; exact down1_ok HOK.out HM.out) (show 0 < (down1 q old).room from by rw [HPQ.out]; exact Nat.lt_of_lt_of_le HRM.out (down1_room HM.out)))
    unfold rpv at HTK
    rw [hdn, hfa.1, hfa.2.1, hfa.2.2] at HTK
    clear hfa
    go_wp2_with fail
    refine HTK.out.mono ?_
    rintro e w3 ⟨b, k1, l1, rfl, hfo, hra, hbe, hfr⟩
    obtain ⟨q', hq'⟩ : ∃ q', q' = (down1 q old).took b := ⟨_, rfl⟩
    have hn' : ((down1 q old).took b).s.n = n := by rw [n_took]; exact hdn
    rw [hn']
    rw [← hq'] at hra ⊢
    have HQ' := Lib.hid hq'
    have HMV := Lib.hid (show Moved q old q' b from ⟨hfo, HQ'.out⟩)
    have HX3 := Lib.hid (HX.out.below HX.out.lt hbe)
    have HY3 := Lib.hid (HY.out.below HY.out.lt hbe)
    have HB3 := Lib.hid (HB.out.trans (hbe.mono HB.out.size))
    have HA3 := Lib.hid hra
    have HK := Lib.hid (Nat.le_trans HB.out.size hfr)
    have ho := RAt.off_row HA3.out HX3.out
    have ho2 := RAt.off_row HA3.out HY3.out
    have HO := Lib.hid (And.intro ho ho2)
    clear hc0 hc1 hc2 hc3 hc4 hf0 hf1 hf2 hf3 hf4 hra hbe hfr hfo hq' hn' HQ' HX HY HB HA HTK ho ho2 hdn
    have hf0 := HX3.out.free 0
    have hf1 := HX3.out.free 1
    have hf2 := HX3.out.free 2
    have hf3 := HX3.out.free 3
    have hf4 := HX3.out.free 4
    have hc0 := HX3.out.cellAt (i := 0) rfl
    have hc1 := HX3.out.cellAt (i := 1) rfl
    have hc2 := HX3.out.cellAt (i := 2) rfl
    have hc3 := HX3.out.cellAt (i := 3) rfl
    have hc4 := HX3.out.cellAt (i := 4) rfl
    go_upto_region 5 with (fail)
    have HU := Lib.hid (((((ButL.set w3 x 0 (.slice (some ⟨k1, 0, none⟩) n l1)).trans (ButL.set _ x 1 (.slice (some ⟨b2, 0, none⟩) n c2))).trans (ButL.set _ x 2 (.int .i64 (q'.first : Int)))).trans (ButL.set _ x 3 (.int .i64 (q'.next : Int)))).trans (ButL.set _ x 4 (.int .i64 (q'.asked : Int))))
    have HX4 := Lib.hid (show RowV (((((w3.setCell ⟨x, 0, none⟩ (.slice (some ⟨k1, 0, none⟩) n l1)).setCell ⟨x, 1, none⟩ (.slice (some ⟨b2, 0, none⟩) n c2)).setCell ⟨x, 2, none⟩ (.int .i64 (q'.first : Int))).setCell ⟨x, 3, none⟩ (.int .i64 (q'.next : Int))).setCell ⟨x, 4, none⟩ (.int .i64 (q'.asked : Int))) x 57 [.slice (some ⟨k1, 0, none⟩) n l1, .slice (some ⟨b2, 0, none⟩) n c2, .int .i64 (q'.first : Int), .int .i64 (q'.next : Int), .int .i64 (q'.asked : Int), .slice A5 n5 c5, .slice A6 n6 c6, .slice A7 n7 c7, .slice A8 n8 c8] from (((((HX3.out.set 0 (.slice (some ⟨k1, 0, none⟩) n l1)).set 1 (.slice (some ⟨b2, 0, none⟩) n c2)).set 2 (.int .i64 (q'.first : Int))).set 3 (.int .i64 (q'.next : Int))).set 4 (.int .i64 (q'.asked : Int))))
    have HA4 := Lib.hid (RAt.butL HA3.out HU.out HO.out.1.1 HO.out.1.2)
    have HY4 := Lib.hid (RowV.butL HY3.out HU.out (Ne.symm HXY.out.1))
    have HB4 := Lib.hid (HB3.out.trans (HU.out.below (B := w.heap.size) (by simp; exact HXY.out.2.1) HB3.out.size))
    clear HU HX3 HY3 HA3 HB3 hf0 hf1 hf2 hf3 hf4 hc0 hc1 hc2 hc3 hc4
    generalize (((((w3.setCell ⟨x, 0, none⟩ (.slice (some ⟨k1, 0, none⟩) n l1)).setCell ⟨x, 1, none⟩ (.slice (some ⟨b2, 0, none⟩) n c2)).setCell ⟨x, 2, none⟩ (.int .i64 (q'.first : Int))).setCell ⟨x, 3, none⟩ (.int .i64 (q'.next : Int))).setCell ⟨x, 4, none⟩ (.int .i64 (q'.asked : Int))) = w4 at *
    have HSZ := Lib.hid (show (Try.prog.info? 57).map (·.size) = some 9 from by kernel_rfl)
    go_wp2_with (first
      | (refine wpList_load_row rfl 57 (.tmp 2) rfl x rfl _ #[.slice (some ⟨k1, 0, none⟩) n l1, .slice (some ⟨b2, 0, none⟩) n c2, .int .i64 (q'.first : Int), .int .i64 (q'.next : Int), .int .i64 (q'.asked : Int), .slice A5 n5 c5, .slice A6 n6 c6, .slice A7 n7 c7, .slice A8 n8 c8] _ _ HX4.out Try.underlying57 rfl HSZ.out ?_)
      | (refine wpList_store_row rfl 57 (.tmp 4) (.tmp 27) rfl y #[.slice (some ⟨k1, 0, none⟩) n l1, .slice (some ⟨b2, 0, none⟩) n c2, .int .i64 (q'.first : Int), .int .i64 (q'.next : Int), .int .i64 (q'.asked : Int), .slice A5 n5 c5, .slice A6 n6 c6, .slice A7 n7 c7, .slice A8 n8 c8] rfl rfl _ _ HY4.out HSZ.out rfl (by simp [Value.oneCell']) ?_)
      | fail)
    have HY5 := Lib.hid (setRow_row [.slice (some ⟨k1, 0, none⟩) n l1, .slice (some ⟨b2, 0, none⟩) n c2, .int .i64 (q'.first : Int), .int .i64 (q'.next : Int), .int .i64 (q'.asked : Int), .slice A5 n5 c5, .slice A6 n6 c6, .slice A7 n7 c7, .slice A8 n8 c8] HY4.out)
    have HA5 := Lib.hid (RAt.butL HA4.out (setRow_but w4 y #[.slice (some ⟨k1, 0, none⟩) n l1, .slice (some ⟨b2, 0, none⟩) n c2, .int .i64 (q'.first : Int), .int .i64 (q'.next : Int), .int .i64 (q'.asked : Int), .slice A5 n5 c5, .slice A6 n6 c6, .slice A7 n7 c7, .slice A8 n8 c8]) HO.out.2.1 HO.out.2.2)
    have HB5 := Lib.hid (HB4.out.trans ((setRow_but w4 y #[.slice (some ⟨k1, 0, none⟩) n l1, .slice (some ⟨b2, 0, none⟩) n c2, .int .i64 (q'.first : Int), .int .i64 (q'.next : Int), .int .i64 (q'.asked : Int), .slice A5 n5 c5, .slice A6 n6 c6, .slice A7 n7 c7, .slice A8 n8 c8]).below (B := w.heap.size) (by simp; exact HXY.out.2.2) HB4.out.size))
    refine bodyPost_ret (v := .tuple #[.agg #[.slice (some ⟨k1, 0, none⟩) n l1, .slice (some ⟨b2, 0, none⟩) n c2, .int .i64 (q'.first : Int), .int .i64 (q'.next : Int), .int .i64 (q'.asked : Int), .slice A5 n5 c5, .slice A6 n6 c6, .slice A7 n7 c7, .slice A8 n8 c8], .int .i64 (b : Int)]) ?_ rfl ⟨q', b, k1, l1, rfl, HMV.out, HA5.out, HK.out, HB5.out⟩
    clear HA5 HB5
    have hc0 := HY5.out.cellAt (i := 0) rfl
    have hc1 := HY5.out.cellAt (i := 1) rfl
    have hc2 := HY5.out.cellAt (i := 2) rfl
    have hc3 := HY5.out.cellAt (i := 3) rfl
    have hc4 := HY5.out.cellAt (i := 4) rfl
    have hc5 := HY5.out.cellAt (i := 5) rfl
    have hc6 := HY5.out.cellAt (i := 6) rfl
    have hc7 := HY5.out.cellAt (i := 7) rfl
    have hc8 := HY5.out.cellAt (i := 8) rfl
    rw [results_cell_tmp rfl]
    go_simp
end Go.Proofs.Ytlemjegngnfanaa.Pl

/- The reference's place: what it has at hand, in memory. -/
namespace Go.Proofs.Ytlemjegngnfanaa.Pl
open Go.RowKit Go.Proofs.Ytlemjegngnfanaa.Oct Go.Proofs.Ytlemjegngnfanaa.Mv Go.Proofs.Ytlemjegngnfanaa.Tl Go.Proofs.Ytlemjegngnfanaa.Pk Go.Maps
set_option linter.unusedVariables false

/-- Counts at b1 and b2, sheets at g1 and g3, flags at h1 and h3. -/
structure RW (w : World) (b1 c1 b2 c2 g1 g3 h1 h3 B : Nat) (x : Wk) : Prop where
  rat : RAt w b1 c1 b2 c2 x.q.s
  r1 : ∃ sp, RowV w g1 3 (ints x.l1 ++ sp)
  r3 : ∃ sp, RowV w g3 3 (ints x.l2 ++ sp)
  t1 : ∃ sp, RowV w h1 4 (bools x.f1 ++ sp)
  t3 : ∃ sp, RowV w h3 4 (bools x.f2 ++ sp)
  lo : B ≤ g1 ∧ B ≤ g3 ∧ B ≤ h1 ∧ B ≤ h3
  ne : g1 ≠ g3 ∧ h1 ≠ h3
  off1 : b1 ≠ g1 ∧ b1 ≠ g3 ∧ b1 ≠ h1 ∧ b1 ≠ h3
  off2 : b2 ≠ g1 ∧ b2 ≠ g3 ∧ b2 ≠ h1 ∧ b2 ≠ h3
section
variable {w w' : World} {b1 c1 b2 c2 g1 g3 h1 h3 B kk ee i b : Nat} {x : Wk} {q' : Q}
theorem exB {g : Nat} {T : TypeId} {vs : List Value} (h : ∃ sp, RowV w g T (vs ++ sp)) (k : Below w.heap.size w w') : ∃ sp, RowV w' g T (vs ++ sp) := by
  obtain ⟨sp, h1⟩ := h
  exact ⟨sp, h1.below h1.lt k⟩
theorem exU {g : Nat} {T : TypeId} {vs : List Value} {L : List Nat} (h : ∃ sp, RowV w g T (vs ++ sp)) (k : ButL w w' L) (hn : g ∉ L) : ∃ sp, RowV w' g T (vs ++ sp) := by
  obtain ⟨sp, h1⟩ := h
  exact ⟨sp, h1.block (k.block _ h1.lt hn)⟩
theorem exNe {g r : Nat} {T U : TypeId} {vs us : List Value} (h : ∃ sp, RowV w g T (vs ++ sp)) (k : RowV w r U us) (hT : T ≠ U) : g ≠ r := by
  obtain ⟨sp, h1⟩ := h
  exact row_ne h1 k hT
theorem exLt {g : Nat} {T : TypeId} {vs : List Value} (h : ∃ sp, RowV w g T (vs ++ sp)) : g < w.heap.size := by
  obtain ⟨sp, h1⟩ := h
  exact h1.lt
theorem RW.below (h : RW w b1 c1 b2 c2 g1 g3 h1 h3 B x) (k : Below w.heap.size w w') : RW w' b1 c1 b2 c2 g1 g3 h1 h3 B x :=
  ⟨h.rat.below k, exB h.r1 k, exB h.r3 k, exB h.t1 k, exB h.t3 k, h.lo, h.ne, h.off1, h.off2⟩
theorem RW.lt (h : RW w b1 c1 b2 c2 g1 g3 h1 h3 B x) : g1 < w.heap.size ∧ g3 < w.heap.size ∧ h1 < w.heap.size ∧ h3 < w.heap.size := ⟨exLt h.r1, exLt h.r3, exLt h.t1, exLt h.t3⟩
theorem RAt.butN {s : St} {L : List Nat} (h : RAt w b1 c1 b2 c2 s) (k : ButL w w' L) (h1 : b1 ∉ L) (h2 : b2 ∉ L) : RAt w' b1 c1 b2 c2 s :=
  ⟨h.now.block (k.block _ h.lt1 h1), h.kept.block (k.block _ h.lt2 h2), h.ok⟩
/-- Other variables are written. -/
theorem RW.row (h : RW w b1 c1 b2 c2 g1 g3 h1 h3 B x) {r : Nat} {T : TypeId} {A : Option Addr} {m c : Nat} {us : List Value} (hr : RowV w r T (.slice A m c :: us)) (k : ButL w w' [r]) (t1 : T ≠ 3) (t2 : T ≠ 4) : RW w' b1 c1 b2 c2 g1 g3 h1 h3 B x := by
  have ho := RAt.off_row h.rat hr
  exact ⟨RAt.butL h.rat k ho.1 ho.2, exU h.r1 k (by simp; exact exNe h.r1 hr (Ne.symm t1)), exU h.r3 k (by simp; exact exNe h.r3 hr (Ne.symm t1)), exU h.t1 k (by simp; exact exNe h.t1 hr (Ne.symm t2)), exU h.t3 k (by simp; exact exNe h.t3 hr (Ne.symm t2)), h.lo, h.ne, h.off1, h.off2⟩
theorem RW.off_gh (h : RW w b1 c1 b2 c2 g1 g3 h1 h3 B x) : g1 ≠ h1 ∧ g1 ≠ h3 ∧ g3 ≠ h1 ∧ g3 ≠ h3 := by
  obtain ⟨s1, k1⟩ := h.t1
  obtain ⟨s3, k3⟩ := h.t3
  exact ⟨exNe h.r1 k1 (by decide), exNe h.r1 k3 (by decide), exNe h.r3 k1 (by decide), exNe h.r3 k3 (by decide)⟩
theorem RW.put1 (h : RW w b1 c1 b2 c2 g1 g3 h1 h3 B x) (hra : RAt w kk ee b2 c2 q'.s) (hk : kk ≠ g1 ∧ kk ≠ g3 ∧ kk ≠ h1 ∧ kk ≠ h3) (hi : i < x.l1.length) (hf : x.f1.length = x.l1.length) :
    RW ((w.setCell ⟨g1, i, none⟩ (.int .i64 (b : Int))).setCell ⟨h1, i, none⟩ (.bool true)) kk ee b2 c2 g1 g3 h1 h3 B (x.mv1 i b q') ∧ ButL w ((w.setCell ⟨g1, i, none⟩ (.int .i64 (b : Int))).setCell ⟨h1, i, none⟩ (.bool true)) [g1, h1] := by
  have u1 := ButL.set w g1 i (.int .i64 (b : Int))
  have u2 := ButL.set (w.setCell ⟨g1, i, none⟩ (.int .i64 (b : Int))) h1 i (.bool true)
  have u : ButL w ((w.setCell ⟨g1, i, none⟩ (.int .i64 (b : Int))).setCell ⟨h1, i, none⟩ (.bool true)) [g1, h1] := (u1.mono (M := [g1, h1]) (by simp)).trans (u2.mono (M := [g1, h1]) (by simp))
  have gh := h.off_gh
  refine ⟨⟨RAt.butN hra u (by simp; exact ⟨hk.1, hk.2.2.1⟩) (by simp; exact ⟨h.off2.1, h.off2.2.2.1⟩), ?_, exU h.r3 u (by simp; exact ⟨Ne.symm h.ne.1, gh.2.2.1⟩), ?_, exU h.t3 u (by simp; exact ⟨Ne.symm gh.2.1, Ne.symm h.ne.2⟩), h.lo, h.ne, hk, h.off2⟩, u⟩
  · obtain ⟨sp, k⟩ := h.r1
    have k2 := k.set i (.int .i64 (b : Int))
    rw [set_ints _ _ _ _ hi] at k2
    exact ⟨sp, k2.block (u2.block _ k2.lt (by simp; exact gh.1))⟩
  · obtain ⟨sp, k⟩ := h.t1
    have k1 := k.block (w' := w.setCell ⟨g1, i, none⟩ (.int .i64 (b : Int))) (u1.block _ k.lt (by simp; exact Ne.symm gh.1))
    have k2 := k1.set i (.bool true)
    rw [set_bools _ _ _ _ (by omega)] at k2
    exact ⟨sp, k2⟩
theorem RW.put2 (h : RW w b1 c1 b2 c2 g1 g3 h1 h3 B x) (hra : RAt w kk ee b2 c2 q'.s) (hk : kk ≠ g1 ∧ kk ≠ g3 ∧ kk ≠ h1 ∧ kk ≠ h3) (hi : i < x.l2.length) (hf : x.f2.length = x.l2.length) :
    RW ((w.setCell ⟨g3, i, none⟩ (.int .i64 (b : Int))).setCell ⟨h3, i, none⟩ (.bool true)) kk ee b2 c2 g1 g3 h1 h3 B (x.mv2 i b q') ∧ ButL w ((w.setCell ⟨g3, i, none⟩ (.int .i64 (b : Int))).setCell ⟨h3, i, none⟩ (.bool true)) [g3, h3] := by
  have u1 := ButL.set w g3 i (.int .i64 (b : Int))
  have u2 := ButL.set (w.setCell ⟨g3, i, none⟩ (.int .i64 (b : Int))) h3 i (.bool true)
  have u : ButL w ((w.setCell ⟨g3, i, none⟩ (.int .i64 (b : Int))).setCell ⟨h3, i, none⟩ (.bool true)) [g3, h3] := (u1.mono (M := [g3, h3]) (by simp)).trans (u2.mono (M := [g3, h3]) (by simp))
  have gh := h.off_gh
  refine ⟨⟨RAt.butN hra u (by simp; exact ⟨hk.2.1, hk.2.2.2⟩) (by simp; exact ⟨h.off2.2.1, h.off2.2.2.2⟩), exU h.r1 u (by simp; exact ⟨h.ne.1, gh.2.1⟩), ?_, exU h.t1 u (by simp; exact ⟨Ne.symm gh.2.2.1, h.ne.2⟩), ?_, h.lo, h.ne, hk, h.off2⟩, u⟩
  · obtain ⟨sp, k⟩ := h.r3
    have k2 := k.set i (.int .i64 (b : Int))
    rw [set_ints _ _ _ _ hi] at k2
    exact ⟨sp, k2.block (u2.block _ k2.lt (by simp; exact gh.2.2.2))⟩
  · obtain ⟨sp, k⟩ := h.t3
    have k1 := k.block (w' := w.setCell ⟨g3, i, none⟩ (.int .i64 (b : Int))) (u1.block _ k.lt (by simp; exact Ne.symm gh.2.2.2))
    have k2 := k1.set i (.bool true)
    rw [set_bools _ _ _ _ (by omega)] at k2
    exact ⟨sp, k2⟩
end
end Go.Proofs.Ytlemjegngnfanaa.Pl
