/- The reference's tally of counts that are handed in. (Written by bin/gen_tlrof.py.) -/
import Derived.Test.YtigmgaedpdeleaaTlW
namespace Go.Proofs.Ytigmgaedpdeleaa.Tl
open Go.RowKit Go.Proofs.Ytigmgaedpdeleaa.Oct Go.Proofs.Ytigmgaedpdeleaa.Mv Go.Maps
set_option linter.unusedVariables false

/-- The counts, as far as k. -/
def fill (l : List UInt16) (n k : Nat) : List UInt16 := (List.range n).map fun j => if j < k then l.getD j 0 else 0
theorem length_fill (l : List UInt16) (n k : Nat) : (fill l n k).length = n := by simp [fill]
theorem fill_zero (l : List UInt16) (n : Nat) : fill l n 0 = List.replicate n 0 := by
  unfold fill
  refine List.ext_getElem (by simp) fun i h1 h2 => by simp
theorem fill_succ (l : List UInt16) {n k : Nat} (hk : k < n) : (fill l n k).set k (l.getD k 0) = fill l n (k + 1) := by
  unfold fill
  refine List.ext_getElem (by simp) fun i h1 h2 => ?_
  rw [List.getElem_set]
  by_cases e : k = i
  · subst e; simp
  · have : (i < k) = (i < k + 1) := propext ⟨fun h => by omega, fun h => by omega⟩
    simp [e, this]
theorem fill_end {l : List UInt16} {n : Nat} (h : l.length = n) : fill l n n = l := by
  subst h
  unfold fill
  refine List.ext_getElem (by simp) fun i h1 h2 => ?_
  simp at h1
  simp [h1]
set_option maxRecDepth 100000 in
theorem rof_no {w : World} {A : Option Addr} {n c : Nat} (h : (n : Int) < 1 ∨ 4096 < (n : Int)) :
    Calls Try.prog 11 #[.slice A n c] w fun e w' => e = .returned (.tuple #[.agg #[.slice none 0 0, .slice none 0 0], .int .i64 2]) ∧ Below w.heap.size w w' := by
  have hz := zero_rtally
  have R1 := alloc_rowV w 31 [.slice none 0 0, .slice none 0 0]
  have B1 := (Below.refl w.heap.size w).alloc (Nat.le_refl _) (.cells #[.slice none 0 0, .slice none 0 0] 31)
  have HR1 := Lib.hid R1
  have HB1 := Lib.hid B1
  clear R1 B1
  go_enter Try.func11, Try.ntmps11
  go_wp2_with fail
  generalize w.alloc (.cells #[.slice none 0 0, .slice none 0 0] 31) = w1 at *
  obtain ⟨r, hr⟩ : ∃ r, r = w.heap.size := ⟨_, rfl⟩
  have HRR := Lib.hid hr
  rw [← hr] at HR1 ⊢
  clear hr
  refine (rnew_no (n : Int) h w1).mono ?_
  rintro e w2 ⟨rfl, bz⟩
  have B3 := (Below.refl w2.heap.size w2).alloc (Nat.le_refl _) (.cells #[.slice none 0 0, .slice none 0 0] 31)
  have R3 := alloc_rowV w2 31 [.slice none 0 0, .slice none 0 0]
  have HR3 := Lib.hid ((HR1.out.below HR1.out.lt bz).below (HR1.out.below HR1.out.lt bz).lt B3)
  have HB3 := Lib.hid ((HB1.out.trans (bz.mono HB1.out.size)).trans (B3.mono (Nat.le_trans HB1.out.size bz.size)))
  have HP3 := Lib.hid R3
  have HNE := Lib.hid (show w2.heap.size ≠ r from by have := (HR1.out.below HR1.out.lt bz).lt; omega)
  clear bz B3 R3 HR1 HB1
  go_upto_region 2 with (fail)
  generalize w2.alloc (.cells #[.slice none 0 0, .slice none 0 0] 31) = w3 at *
  obtain ⟨p, hp⟩ : ∃ p, p = w2.heap.size := ⟨_, rfl⟩
  rw [← hp] at HP3 HNE ⊢
  clear hp
  have p0 := HP3.out.cellAt (i := 0) rfl
  have p1 := HP3.out.cellAt (i := 1) rfl
  have q0 := HR3.out.cellAt (i := 0) rfl
  have q1 := HR3.out.cellAt (i := 1) rfl
  have f0 := HR3.out.free 0
  have f1 := HR3.out.free 1
  go_wp2_with fail
  refine wp_loop_rounds 1 ?_
  rw [rounds_succ]
  go_wp2_with fail
  have HR4 := Lib.hid ((HR3.out.set 0 (.slice none 0 0)).set 1 (.slice none 0 0))
  have HB4 := Lib.hid ((HB3.out.setCell (p := ⟨r, 0, none⟩) (by rw [HRR.out]; exact Nat.le_refl _) (.slice none 0 0)).setCell (p := ⟨r, 1, none⟩) (by rw [HRR.out]; exact Nat.le_refl _) (.slice none 0 0))
  refine bodyPost_ret (v := .tuple #[.agg #[.slice none 0 0, .slice none 0 0], .int .i64 2]) ?_ rfl ⟨rfl, HB4.out⟩
  clear p0 p1 q0 q1 f0 f1
  generalize (w3.setCell ⟨r, 0, none⟩ (.slice none 0 0)).setCell ⟨r, 1, none⟩ (.slice none 0 0) = w4 at *
  have q0 := HR4.out.cellAt (i := 0) rfl
  have q1 := HR4.out.cellAt (i := 1) rfl
  rw [results_cell_tmp rfl]
  go_simp
set_option maxRecDepth 100000 in
set_option maxHeartbeats 2000000 in
theorem rof_yes {w : World} {A : Option Addr} {n c : Nat} {l : List UInt16} (hT : ToldV w A (nums l)) (hl : l.length = n) (h0 : 1 ≤ n) (hn : n ≤ 4096) :
    Calls Try.prog 11 #[.slice A n c] w fun e w' => ∃ b1 c1 b2 c2, e = .returned (.tuple #[.agg #[.slice (some ⟨b1, 0, none⟩) n c1, .slice (some ⟨b2, 0, none⟩) n c2], .int .i64 0]) ∧ RAt w' b1 c1 b2 c2 (St.of l) ∧ Below w.heap.size w w' := by
  have hz := zero_rtally
  obtain ⟨xb, xo, rfl, hh⟩ := hT.has (by rw [length_nums, hl]; exact h0)
  have HH := Lib.hid hh
  have HXL := Lib.hid (hh.lt (by rw [length_nums, hl]; exact h0))
  have HL := Lib.hid hl
  have R1 := alloc_rowV w 31 [.slice none 0 0, .slice none 0 0]
  have B1 := (Below.refl w.heap.size w).alloc (Nat.le_refl _) (.cells #[.slice none 0 0, .slice none 0 0] 31)
  have HR1 := Lib.hid R1
  have HB1 := Lib.hid B1
  clear R1 B1 hh hT hl
  go_enter Try.func11, Try.ntmps11
  go_wp2_with fail
  generalize w.alloc (.cells #[.slice none 0 0, .slice none 0 0] 31) = w1 at *
  obtain ⟨r, hr⟩ : ∃ r, r = w.heap.size := ⟨_, rfl⟩
  have HRR := Lib.hid hr
  rw [← hr] at HR1 ⊢
  clear hr
  refine (rnew_rows n h0 hn w1).mono ?_
  rintro e w2 ⟨b1, c1, b2, c2, rfl, q1, q2, hne, hb1, hb2, r1, r2, bz⟩
  obtain rfl := q1.symm
  obtain rfl := q2.symm
  unfold rval
  have OB := (Below.refl w2.heap.size w2).alloc (Nat.le_refl _) (.cells #[.slice (some ⟨b1, 0, none⟩) n n, .slice (some ⟨b2, 0, none⟩) n n] 31)
  have OR := alloc_rowV w2 31 [.slice (some ⟨b1, 0, none⟩) n n, .slice (some ⟨b2, 0, none⟩) n n]
  have hr2 := HR1.out.below HR1.out.lt bz
  have HLT := Lib.hid (show b1 < w2.heap.size ∧ b2 < w2.heap.size ∧ r < w2.heap.size from ⟨r1.lt, r2.lt, hr2.lt⟩)
  have HR3 := Lib.hid (hr2.below hr2.lt OB)
  have HP3 := Lib.hid OR
  have HX3 := Lib.hid (r1.below r1.lt OB)
  have HY3 := Lib.hid (r2.below r2.lt OB)
  have HB3 := Lib.hid ((HB1.out.trans (bz.mono HB1.out.size)).trans (OB.mono (Nat.le_trans HB1.out.size bz.size)))
  have HNE := Lib.hid hne
  have HGE := Lib.hid (show w.heap.size ≤ b1 ∧ w.heap.size ≤ b2 ∧ r < b1 ∧ r < b2 from by have := HB1.out.size; have := HR1.out.lt; omega)
  clear bz OB OR hr2 r1 r2 hne hb1 hb2 HR1 HB1
  go_upto_region 2 with (fail)
  generalize w2.alloc (.cells #[.slice (some ⟨b1, 0, none⟩) n n, .slice (some ⟨b2, 0, none⟩) n n] 31) = w3 at *
  obtain ⟨p, hp⟩ : ∃ p, p = w2.heap.size := ⟨_, rfl⟩
  rw [← hp] at HP3 HLT ⊢
  clear hp
  go_wp2_with fail
  go_loopw [6] (fun v wr => ∃ k : Nat, k ≤ n ∧ v = .int .i64 (k : Int) ∧ Hid (RowV wr b1 3 (wide (fill l n k))) ∧ Hid (RowV wr b2 3 (wide (fill l n k))) ∧ Hid (RowV wr p 31 [.slice (some ⟨b1, 0, none⟩) n n, .slice (some ⟨b2, 0, none⟩) n n]) ∧ Hid (RowV wr r 31 [.slice none 0 0, .slice none 0 0]) ∧ Hid (Below w.heap.size w wr)) (fun v _ => n - (Go.RowKit.intOf v).toNat)
  case atStart => exact ⟨0, Nat.zero_le _, rfl, Lib.hid (by rw [fill_zero]; exact HX3.out), Lib.hid (by rw [fill_zero]; exact HY3.out), HP3, HR3, HB3⟩
  case round =>
    obtain ⟨k, hk, rfl, HX, HY, HP, HR, HB⟩ := hrel
    have p0 := HP.out.cellAt (i := 0) rfl
    have p1 := HP.out.cellAt (i := 1) rfl
    by_cases hlt : k < n
    · have hki : (k : Int) < (n : Int) := by omega
      have hge : (0 : Int) ≤ (k : Int) := by omega
      have hxk := (HH.out.below HXL.out HB.out).cellAt (nums_at l k (by rw [HL.out]; exact hlt))
      unfold num at hxk
      obtain ⟨X, hX⟩ : ∃ X : UInt16, X = l.getD k 0 := ⟨_, rfl⟩
      rw [← hX] at hxk
      have hu := u16_lt X
      have HXE := Lib.hid hX
      have HK := Lib.hid hlt
      clear hX
      go_upto_region 5 with (fail)
      have HWR := Lib.hid (show Value.int .i64 (IntKind.i64.wrap (X.toNat : Int)) = Value.int .i64 (X.toNat : Int) by rw [show IntKind.i64.wrap (X.toNat : Int) = (X.toNat : Int) by rw [IntKind.wrap_i64]; omega])
      have HPB := Lib.hid (show p ≠ b1 ∧ p ≠ b2 ∧ r ≠ b1 ∧ r ≠ b2 from by have := HGE.out; have := HLT.out; omega)
      refine Inv2.wp_region_inv (fun b a wy => ∃ z20 z21 z22 z23 z24 z25 z26 z27 z28 z29 z30 z31 z32 z33 z34 z35 z36 z37, a = ⟨#[Value.slice (some { block := xb, off := xo }) n c, undef, Value.pointer (some { block := r, off := 0 }), Value.int IntKind.i64 0, Value.pointer (some { block := p, off := 0 }), Value.int IntKind.i64 0, Value.int IntKind.i64 ↑k, Value.tuple #[Value.agg #[Value.slice (some { block := b1, off := 0 }) n n, Value.slice (some { block := b2, off := 0 }) n n], Value.int IntKind.i64 0], Value.slice (some { block := xb, off := xo }) n c, Value.int IntKind.i64 ↑n, Value.tuple #[Value.agg #[Value.slice (some { block := b1, off := 0 }) n n, Value.slice (some { block := b2, off := 0 }) n n], Value.int IntKind.i64 0], Value.agg #[Value.slice (some { block := b1, off := 0 }) n n, Value.slice (some { block := b2, off := 0 }) n n], Value.int IntKind.i64 0, Value.int IntKind.i64 ↑k, Value.pointer (some { block := p, off := 0 }), Value.slice (some { block := b1, off := 0 }) n n, Value.int IntKind.i64 ↑n, Value.bool true, u18, u19, z20, z21, z22, z23, z24, z25, z26, z27, z28, z29, z30, z31, z32, z33, z34, z35, z36, z37, undef, undef], []⟩ ∧ Hid ((b 0 = true → z20 = .pointer (some ⟨p, 0, none⟩)) ∧ (b 1 = true → z21 = .slice (some ⟨b1, 0, none⟩) n n) ∧ (b 2 = true → z22 = Value.int IntKind.i64 ↑k) ∧ (b 3 = true → z23 = .pointer (some ⟨p, 1, none⟩)) ∧ (b 4 = true → z24 = .slice (some ⟨b2, 0, none⟩) n n) ∧ (b 5 = true → z25 = Value.int IntKind.i64 ↑k) ∧ (b 6 = true → z26 = Value.slice (some { block := xb, off := xo }) n c) ∧ (b 7 = true → z27 = Value.int IntKind.i64 ↑k) ∧ (b 8 = true → z28 = .pointer (some ⟨xb, xo + k, none⟩)) ∧ (b 9 = true → z29 = .int .u16 (X.toNat : Int)) ∧ (b 10 = true → z30 = .int .i64 (X.toNat : Int)) ∧ (b 11 = true → z31 = Value.slice (some { block := xb, off := xo }) n c) ∧ (b 12 = true → z32 = Value.int IntKind.i64 ↑k) ∧ (b 13 = true → z33 = .pointer (some ⟨xb, xo + k, none⟩)) ∧ (b 14 = true → z34 = .int .u16 (X.toNat : Int)) ∧ (b 15 = true → z35 = .int .i64 (X.toNat : Int)) ∧ (b 16 = true → z36 = .pointer (some ⟨b1, k, none⟩)) ∧ (b 18 = true → z37 = .pointer (some ⟨b2, k, none⟩))) ∧ Hid (Below w.heap.size w wy) ∧ Hid ((b 17 = false → RowV wy b1 3 (wide (fill l n k))) ∧ (b 17 = true → RowV wy b1 3 (wide (fill l n (k + 1)))) ∧ (b 19 = false → RowV wy b2 3 (wide (fill l n k))) ∧ (b 19 = true → RowV wy b2 3 (wide (fill l n (k + 1)))) ∧ RowV wy p 31 [.slice (some ⟨b1, 0, none⟩) n n, .slice (some ⟨b2, 0, none⟩) n n] ∧ RowV wy r 31 [.slice none 0 0, .slice none 0 0])) (by kernel_rfl) (by kernel_rfl) ?startR5 ?stepsR5 ?doneR5
      case startR5 =>
        intro b hb
        refine ⟨u20, u21, u22, u23, u24, u25, u26, u27, u28, u29, u30, u31, u32, u33, u34, u35, u36, u37, rfl, Lib.hid ⟨?_, ?_, ?_, ?_, ?_, ?_, ?_, ?_, ?_, ?_, ?_, ?_, ?_, ?_, ?_, ?_, ?_, ?_⟩, Lib.hid (HB.out.trans <| (show Still wr wr.drew from ⟨rfl, rfl, rfl, rfl⟩).below _), Lib.hid (⟨fun _ => HX.out.still ⟨rfl, rfl, rfl, rfl⟩, fun e => (by rw [hb _ (by decide)] at e; cases e), fun _ => HY.out.still ⟨rfl, rfl, rfl, rfl⟩, fun e => (by rw [hb _ (by decide)] at e; cases e), HP.out.still ⟨rfl, rfl, rfl, rfl⟩, HR.out.still ⟨rfl, rfl, rfl, rfl⟩⟩)⟩
        all_goals (intro e; first | rfl | (rw [hb _ (by decide)] at e; cases e))
      case stepsR5 =>
        refine ⟨?_, ?_, ?_, ?_, ?_, ?_, ?_, ?_, ?_, ?_, ?_, ?_, ?_, ?_, ?_, ?_, ?_, ?_, ?_, ?_, trivial⟩
        · rintro b a wy hb hd ⟨z20, z21, z22, z23, z24, z25, z26, z27, z28, z29, z30, z31, z32, z33, z34, z35, z36, z37, rfl, HV, HW, HX⟩ K hK
          obtain ⟨h0, h1, h2, h3, h4, h5, h6, h7, h8, h9, h10, h11, h12, h13, h14, h15, h16, h18⟩ := HV.out
          clear hd
          go_simp
          exact hK _ _ ⟨_, _, _, _, _, _, _, _, _, _, _, _, _, _, _, _, _, _, rfl, Lib.hid ⟨fun _ => rfl, h1, h2, h3, h4, h5, h6, h7, h8, h9, h10, h11, h12, h13, h14, h15, h16, h18⟩, HW, HX⟩
        · rintro b a wy hb hd ⟨z20, z21, z22, z23, z24, z25, z26, z27, z28, z29, z30, z31, z32, z33, z34, z35, z36, z37, rfl, HV, HW, HX⟩ K hK
          obtain ⟨h0, h1, h2, h3, h4, h5, h6, h7, h8, h9, h10, h11, h12, h13, h14, h15, h16, h18⟩ := HV.out
          simp [Region.binds] at hd
          obtain rfl := h0 (by simp [hd])
          clear hd
          obtain ⟨x1, x2, x3, x4, xp, xr⟩ := HX.out
          have hp0 := xp.cellAt (i := 0) rfl
          clear x1 x2 x3 x4 xp xr
          go_simp
          exact hK _ _ ⟨_, _, _, _, _, _, _, _, _, _, _, _, _, _, _, _, _, _, rfl, Lib.hid ⟨h0, fun _ => rfl, h2, h3, h4, h5, h6, h7, h8, h9, h10, h11, h12, h13, h14, h15, h16, h18⟩, HW, HX⟩
        · rintro b a wy hb hd ⟨z20, z21, z22, z23, z24, z25, z26, z27, z28, z29, z30, z31, z32, z33, z34, z35, z36, z37, rfl, HV, HW, HX⟩ K hK
          obtain ⟨h0, h1, h2, h3, h4, h5, h6, h7, h8, h9, h10, h11, h12, h13, h14, h15, h16, h18⟩ := HV.out
          clear hd
          go_simp
          exact hK _ _ ⟨_, _, _, _, _, _, _, _, _, _, _, _, _, _, _, _, _, _, rfl, Lib.hid ⟨h0, h1, fun _ => rfl, h3, h4, h5, h6, h7, h8, h9, h10, h11, h12, h13, h14, h15, h16, h18⟩, HW, HX⟩
        · rintro b a wy hb hd ⟨z20, z21, z22, z23, z24, z25, z26, z27, z28, z29, z30, z31, z32, z33, z34, z35, z36, z37, rfl, HV, HW, HX⟩ K hK
          obtain ⟨h0, h1, h2, h3, h4, h5, h6, h7, h8, h9, h10, h11, h12, h13, h14, h15, h16, h18⟩ := HV.out
          clear hd
          go_simp
          exact hK _ _ ⟨_, _, _, _, _, _, _, _, _, _, _, _, _, _, _, _, _, _, rfl, Lib.hid ⟨h0, h1, h2, fun _ => rfl, h4, h5, h6, h7, h8, h9, h10, h11, h12, h13, h14, h15, h16, h18⟩, HW, HX⟩
        · rintro b a wy hb hd ⟨z20, z21, z22, z23, z24, z25, z26, z27, z28, z29, z30, z31, z32, z33, z34, z35, z36, z37, rfl, HV, HW, HX⟩ K hK
          obtain ⟨h0, h1, h2, h3, h4, h5, h6, h7, h8, h9, h10, h11, h12, h13, h14, h15, h16, h18⟩ := HV.out
          simp [Region.binds] at hd
          obtain rfl := h3 (by simp [hd])
          clear hd
          obtain ⟨x1, x2, x3, x4, xp, xr⟩ := HX.out
          have hp1 := xp.cellAt (i := 1) rfl
          clear x1 x2 x3 x4 xp xr
          go_simp
          exact hK _ _ ⟨_, _, _, _, _, _, _, _, _, _, _, _, _, _, _, _, _, _, rfl, Lib.hid ⟨h0, h1, h2, h3, fun _ => rfl, h5, h6, h7, h8, h9, h10, h11, h12, h13, h14, h15, h16, h18⟩, HW, HX⟩
        · rintro b a wy hb hd ⟨z20, z21, z22, z23, z24, z25, z26, z27, z28, z29, z30, z31, z32, z33, z34, z35, z36, z37, rfl, HV, HW, HX⟩ K hK
          obtain ⟨h0, h1, h2, h3, h4, h5, h6, h7, h8, h9, h10, h11, h12, h13, h14, h15, h16, h18⟩ := HV.out
          clear hd
          go_simp
          exact hK _ _ ⟨_, _, _, _, _, _, _, _, _, _, _, _, _, _, _, _, _, _, rfl, Lib.hid ⟨h0, h1, h2, h3, h4, fun _ => rfl, h6, h7, h8, h9, h10, h11, h12, h13, h14, h15, h16, h18⟩, HW, HX⟩
        · rintro b a wy hb hd ⟨z20, z21, z22, z23, z24, z25, z26, z27, z28, z29, z30, z31, z32, z33, z34, z35, z36, z37, rfl, HV, HW, HX⟩ K hK
          obtain ⟨h0, h1, h2, h3, h4, h5, h6, h7, h8, h9, h10, h11, h12, h13, h14, h15, h16, h18⟩ := HV.out
          clear hd
          go_simp
          exact hK _ _ ⟨_, _, _, _, _, _, _, _, _, _, _, _, _, _, _, _, _, _, rfl, Lib.hid ⟨h0, h1, h2, h3, h4, h5, fun _ => rfl, h7, h8, h9, h10, h11, h12, h13, h14, h15, h16, h18⟩, HW, HX⟩
        · rintro b a wy hb hd ⟨z20, z21, z22, z23, z24, z25, z26, z27, z28, z29, z30, z31, z32, z33, z34, z35, z36, z37, rfl, HV, HW, HX⟩ K hK
          obtain ⟨h0, h1, h2, h3, h4, h5, h6, h7, h8, h9, h10, h11, h12, h13, h14, h15, h16, h18⟩ := HV.out
          clear hd
          go_simp
          exact hK _ _ ⟨_, _, _, _, _, _, _, _, _, _, _, _, _, _, _, _, _, _, rfl, Lib.hid ⟨h0, h1, h2, h3, h4, h5, h6, fun _ => rfl, h8, h9, h10, h11, h12, h13, h14, h15, h16, h18⟩, HW, HX⟩
        · rintro b a wy hb hd ⟨z20, z21, z22, z23, z24, z25, z26, z27, z28, z29, z30, z31, z32, z33, z34, z35, z36, z37, rfl, HV, HW, HX⟩ K hK
          obtain ⟨h0, h1, h2, h3, h4, h5, h6, h7, h8, h9, h10, h11, h12, h13, h14, h15, h16, h18⟩ := HV.out
          simp [Region.binds] at hd
          obtain rfl := h6 (by simp [hd])
          obtain rfl := h7 (by simp [hd])
          clear hd
          go_simp
          exact hK _ _ ⟨_, _, _, _, _, _, _, _, _, _, _, _, _, _, _, _, _, _, rfl, Lib.hid ⟨h0, h1, h2, h3, h4, h5, h6, h7, fun _ => rfl, h9, h10, h11, h12, h13, h14, h15, h16, h18⟩, HW, HX⟩
        · rintro b a wy hb hd ⟨z20, z21, z22, z23, z24, z25, z26, z27, z28, z29, z30, z31, z32, z33, z34, z35, z36, z37, rfl, HV, HW, HX⟩ K hK
          obtain ⟨h0, h1, h2, h3, h4, h5, h6, h7, h8, h9, h10, h11, h12, h13, h14, h15, h16, h18⟩ := HV.out
          simp [Region.binds] at hd
          obtain rfl := h8 (by simp [hd])
          clear hd
          have hxk2 := (HH.out.below HXL.out HW.out).cellAt (nums_at l k (by rw [HL.out]; exact HK.out))
          unfold num at hxk2
          rw [← HXE.out] at hxk2
          go_simp
          exact hK _ _ ⟨_, _, _, _, _, _, _, _, _, _, _, _, _, _, _, _, _, _, rfl, Lib.hid ⟨h0, h1, h2, h3, h4, h5, h6, h7, h8, fun _ => rfl, h10, h11, h12, h13, h14, h15, h16, h18⟩, HW, HX⟩
        · rintro b a wy hb hd ⟨z20, z21, z22, z23, z24, z25, z26, z27, z28, z29, z30, z31, z32, z33, z34, z35, z36, z37, rfl, HV, HW, HX⟩ K hK
          obtain ⟨h0, h1, h2, h3, h4, h5, h6, h7, h8, h9, h10, h11, h12, h13, h14, h15, h16, h18⟩ := HV.out
          simp [Region.binds] at hd
          obtain rfl := h9 (by simp [hd])
          clear hd
          go_simp
          exact hK _ _ ⟨_, _, _, _, _, _, _, _, _, _, _, _, _, _, _, _, _, _, rfl, Lib.hid ⟨h0, h1, h2, h3, h4, h5, h6, h7, h8, h9, fun _ => HWR.out, h11, h12, h13, h14, h15, h16, h18⟩, HW, HX⟩
        · rintro b a wy hb hd ⟨z20, z21, z22, z23, z24, z25, z26, z27, z28, z29, z30, z31, z32, z33, z34, z35, z36, z37, rfl, HV, HW, HX⟩ K hK
          obtain ⟨h0, h1, h2, h3, h4, h5, h6, h7, h8, h9, h10, h11, h12, h13, h14, h15, h16, h18⟩ := HV.out
          clear hd
          go_simp
          exact hK _ _ ⟨_, _, _, _, _, _, _, _, _, _, _, _, _, _, _, _, _, _, rfl, Lib.hid ⟨h0, h1, h2, h3, h4, h5, h6, h7, h8, h9, h10, fun _ => rfl, h12, h13, h14, h15, h16, h18⟩, HW, HX⟩
        · rintro b a wy hb hd ⟨z20, z21, z22, z23, z24, z25, z26, z27, z28, z29, z30, z31, z32, z33, z34, z35, z36, z37, rfl, HV, HW, HX⟩ K hK
          obtain ⟨h0, h1, h2, h3, h4, h5, h6, h7, h8, h9, h10, h11, h12, h13, h14, h15, h16, h18⟩ := HV.out
          clear hd
          go_simp
          exact hK _ _ ⟨_, _, _, _, _, _, _, _, _, _, _, _, _, _, _, _, _, _, rfl, Lib.hid ⟨h0, h1, h2, h3, h4, h5, h6, h7, h8, h9, h10, h11, fun _ => rfl, h13, h14, h15, h16, h18⟩, HW, HX⟩
        · rintro b a wy hb hd ⟨z20, z21, z22, z23, z24, z25, z26, z27, z28, z29, z30, z31, z32, z33, z34, z35, z36, z37, rfl, HV, HW, HX⟩ K hK
          obtain ⟨h0, h1, h2, h3, h4, h5, h6, h7, h8, h9, h10, h11, h12, h13, h14, h15, h16, h18⟩ := HV.out
          simp [Region.binds] at hd
          obtain rfl := h11 (by simp [hd])
          obtain rfl := h12 (by simp [hd])
          clear hd
          go_simp
          exact hK _ _ ⟨_, _, _, _, _, _, _, _, _, _, _, _, _, _, _, _, _, _, rfl, Lib.hid ⟨h0, h1, h2, h3, h4, h5, h6, h7, h8, h9, h10, h11, h12, fun _ => rfl, h14, h15, h16, h18⟩, HW, HX⟩
        · rintro b a wy hb hd ⟨z20, z21, z22, z23, z24, z25, z26, z27, z28, z29, z30, z31, z32, z33, z34, z35, z36, z37, rfl, HV, HW, HX⟩ K hK
          obtain ⟨h0, h1, h2, h3, h4, h5, h6, h7, h8, h9, h10, h11, h12, h13, h14, h15, h16, h18⟩ := HV.out
          simp [Region.binds] at hd
          obtain rfl := h13 (by simp [hd])
          clear hd
          have hxk2 := (HH.out.below HXL.out HW.out).cellAt (nums_at l k (by rw [HL.out]; exact HK.out))
          unfold num at hxk2
          rw [← HXE.out] at hxk2
          go_simp
          exact hK _ _ ⟨_, _, _, _, _, _, _, _, _, _, _, _, _, _, _, _, _, _, rfl, Lib.hid ⟨h0, h1, h2, h3, h4, h5, h6, h7, h8, h9, h10, h11, h12, h13, fun _ => rfl, h15, h16, h18⟩, HW, HX⟩
        · rintro b a wy hb hd ⟨z20, z21, z22, z23, z24, z25, z26, z27, z28, z29, z30, z31, z32, z33, z34, z35, z36, z37, rfl, HV, HW, HX⟩ K hK
          obtain ⟨h0, h1, h2, h3, h4, h5, h6, h7, h8, h9, h10, h11, h12, h13, h14, h15, h16, h18⟩ := HV.out
          simp [Region.binds] at hd
          obtain rfl := h14 (by simp [hd])
          clear hd
          go_simp
          exact hK _ _ ⟨_, _, _, _, _, _, _, _, _, _, _, _, _, _, _, _, _, _, rfl, Lib.hid ⟨h0, h1, h2, h3, h4, h5, h6, h7, h8, h9, h10, h11, h12, h13, h14, fun _ => HWR.out, h16, h18⟩, HW, HX⟩
        · rintro b a wy hb hd ⟨z20, z21, z22, z23, z24, z25, z26, z27, z28, z29, z30, z31, z32, z33, z34, z35, z36, z37, rfl, HV, HW, HX⟩ K hK
          obtain ⟨h0, h1, h2, h3, h4, h5, h6, h7, h8, h9, h10, h11, h12, h13, h14, h15, h16, h18⟩ := HV.out
          simp [Region.binds] at hd
          obtain rfl := h1 (by simp [hd])
          obtain rfl := h2 (by simp [hd])
          clear hd
          go_simp
          exact hK _ _ ⟨_, _, _, _, _, _, _, _, _, _, _, _, _, _, _, _, _, _, rfl, Lib.hid ⟨h0, h1, h2, h3, h4, h5, h6, h7, h8, h9, h10, h11, h12, h13, h14, h15, fun _ => rfl, h18⟩, HW, HX⟩
        · rintro b a wy hb hd ⟨z20, z21, z22, z23, z24, z25, z26, z27, z28, z29, z30, z31, z32, z33, z34, z35, z36, z37, rfl, HV, HW, HX⟩ K hK
          obtain ⟨h0, h1, h2, h3, h4, h5, h6, h7, h8, h9, h10, h11, h12, h13, h14, h15, h16, h18⟩ := HV.out
          simp [Region.binds] at hd
          obtain rfl := h16 (by simp [hd])
          obtain rfl := h10 (by simp [hd])
          clear hd
          obtain ⟨x1, x2, x3, x4, xp, xr⟩ := HX.out
          have hb1 := x1 hb
          have cc := hb1.cellAt (wide_at (fill l n k) k (by rw [length_fill]; exact HK.out))
          have ff := hb1.free k
          have HN1 := Lib.hid (show RowV (wy.setCell ⟨b1, k, none⟩ (.int .i64 (X.toNat : Int))) b1 3 (wide (fill l n (k + 1))) by rw [← fill_succ l HK.out, ← HXE.out, ← wide_set]; exact hb1.set k (.int .i64 (X.toNat : Int)))
          have HWN := Lib.hid (HW.out.setCell (p := ⟨b1, k, none⟩) HGE.out.1 (.int .i64 (X.toNat : Int)))
          have HPN := Lib.hid (xp.other (i := k) (v := .int .i64 (X.toNat : Int)) HPB.out.1)
          have HRN := Lib.hid (xr.other (i := k) (v := .int .i64 (X.toNat : Int)) HPB.out.2.2.1)
          have HO1 := Lib.hid (fun e => (x3 e).other (i := k) (v := .int .i64 (X.toNat : Int)) (fun e' => HNE.out e'.symm))
          have HO2 := Lib.hid (fun e => (x4 e).other (i := k) (v := .int .i64 (X.toNat : Int)) (fun e' => HNE.out e'.symm))
          clear hb1 x1 x2 x3 x4 xp xr
          go_simp
          exact hK _ _ ⟨_, _, _, _, _, _, _, _, _, _, _, _, _, _, _, _, _, _, rfl, Lib.hid ⟨h0, h1, h2, h3, h4, h5, h6, h7, h8, h9, h10, h11, h12, h13, h14, h15, h16, h18⟩, HWN, Lib.hid ⟨fun e => (by cases e), fun _ => HN1.out, HO1.out, HO2.out, HPN.out, HRN.out⟩⟩
        · rintro b a wy hb hd ⟨z20, z21, z22, z23, z24, z25, z26, z27, z28, z29, z30, z31, z32, z33, z34, z35, z36, z37, rfl, HV, HW, HX⟩ K hK
          obtain ⟨h0, h1, h2, h3, h4, h5, h6, h7, h8, h9, h10, h11, h12, h13, h14, h15, h16, h18⟩ := HV.out
          simp [Region.binds] at hd
          obtain rfl := h4 (by simp [hd])
          obtain rfl := h5 (by simp [hd])
          clear hd
          go_simp
          exact hK _ _ ⟨_, _, _, _, _, _, _, _, _, _, _, _, _, _, _, _, _, _, rfl, Lib.hid ⟨h0, h1, h2, h3, h4, h5, h6, h7, h8, h9, h10, h11, h12, h13, h14, h15, h16, fun _ => rfl⟩, HW, HX⟩
        · rintro b a wy hb hd ⟨z20, z21, z22, z23, z24, z25, z26, z27, z28, z29, z30, z31, z32, z33, z34, z35, z36, z37, rfl, HV, HW, HX⟩ K hK
          obtain ⟨h0, h1, h2, h3, h4, h5, h6, h7, h8, h9, h10, h11, h12, h13, h14, h15, h16, h18⟩ := HV.out
          simp [Region.binds] at hd
          obtain rfl := h18 (by simp [hd])
          obtain rfl := h15 (by simp [hd])
          clear hd
          obtain ⟨x1, x2, x3, x4, xp, xr⟩ := HX.out
          have hb1 := x3 hb
          have cc := hb1.cellAt (wide_at (fill l n k) k (by rw [length_fill]; exact HK.out))
          have ff := hb1.free k
          have HN1 := Lib.hid (show RowV (wy.setCell ⟨b2, k, none⟩ (.int .i64 (X.toNat : Int))) b2 3 (wide (fill l n (k + 1))) by rw [← fill_succ l HK.out, ← HXE.out, ← wide_set]; exact hb1.set k (.int .i64 (X.toNat : Int)))
          have HWN := Lib.hid (HW.out.setCell (p := ⟨b2, k, none⟩) HGE.out.2.1 (.int .i64 (X.toNat : Int)))
          have HPN := Lib.hid (xp.other (i := k) (v := .int .i64 (X.toNat : Int)) HPB.out.2.1)
          have HRN := Lib.hid (xr.other (i := k) (v := .int .i64 (X.toNat : Int)) HPB.out.2.2.2)
          have HO1 := Lib.hid (fun e => (x1 e).other (i := k) (v := .int .i64 (X.toNat : Int)) HNE.out)
          have HO2 := Lib.hid (fun e => (x2 e).other (i := k) (v := .int .i64 (X.toNat : Int)) HNE.out)
          clear hb1 x1 x2 x3 x4 xp xr
          go_simp
          exact hK _ _ ⟨_, _, _, _, _, _, _, _, _, _, _, _, _, _, _, _, _, _, rfl, Lib.hid ⟨h0, h1, h2, h3, h4, h5, h6, h7, h8, h9, h10, h11, h12, h13, h14, h15, h16, h18⟩, HWN, Lib.hid ⟨HO1.out, HO2.out, fun e => (by cases e), fun _ => HN1.out, HPN.out, HRN.out⟩⟩
      case doneR5 =>
        rintro b a wy hb ⟨z20, z21, z22, z23, z24, z25, z26, z27, z28, z29, z30, z31, z32, z33, z34, z35, z36, z37, rfl, HV, HW, HX⟩
        obtain ⟨h0, h1, h2, h3, h4, h5, h6, h7, h8, h9, h10, h11, h12, h13, h14, h15, h16, h18⟩ := HV.out
        obtain rfl := h0 (hb 0)
        obtain rfl := h1 (hb 1)
        obtain rfl := h2 (hb 2)
        obtain rfl := h3 (hb 3)
        obtain rfl := h4 (hb 4)
        obtain rfl := h5 (hb 5)
        obtain rfl := h6 (hb 6)
        obtain rfl := h7 (hb 7)
        obtain rfl := h8 (hb 8)
        obtain rfl := h9 (hb 9)
        obtain rfl := h10 (hb 10)
        obtain rfl := h11 (hb 11)
        obtain rfl := h12 (hb 12)
        obtain rfl := h13 (hb 13)
        obtain rfl := h14 (hb 14)
        obtain rfl := h15 (hb 15)
        obtain rfl := h16 (hb 16)
        obtain rfl := h18 (hb 18)
        clear HV h0 h1 h2 h3 h4 h5 h6 h7 h8 h9 h10 h11 h12 h13 h14 h15 h16 h18
        obtain ⟨x1, x2, x3, x4, xp, xr⟩ := HX.out
        have HX2 := Lib.hid (x2 (hb 17))
        have HY2 := Lib.hid (x4 (hb 19))
        have HP2 := Lib.hid xp
        have HR2 := Lib.hid xr
        clear x1 x2 x3 x4 xp xr HX hb p0 p1 hxk
        go_wp2_with fail
        go_roundw
        case rel => exact ⟨k + 1, by omega, by go_num, HX2, HY2, HP2, HR2, HW⟩
        case measure => simp [Go.RowKit.intOf]; omega
    · obtain rfl : k = n := by omega
      have q0 := HR.out.cellAt (i := 0) rfl
      have q1 := HR.out.cellAt (i := 1) rfl
      have f0 := HR.out.free 0
      have f1 := HR.out.free 1
      have hx := HX.out.has
      have hy := HY.out.has
      rw [fill_end HL.out] at hx hy
      have HXX := Lib.hid hx
      have HYY := Lib.hid hy
      have HRN := Lib.hid (show b1 ≠ r ∧ b2 ≠ r from by have := HGE.out; omega)
      have HOK := Lib.hid (show (St.of l).Ok from .of (by rw [HL.out]; exact h0) (by rw [HL.out]; exact hn))
      clear hx hy
      go_wp2_with fail
      have HR4 := Lib.hid ((HR.out.set 0 (.slice (some ⟨b1, 0, none⟩) k k)).set 1 (.slice (some ⟨b2, 0, none⟩) k k))
      have HB4 := Lib.hid ((HB.out.setCell (p := ⟨r, 0, none⟩) (by rw [HRR.out]; exact Nat.le_refl _) (.slice (some ⟨b1, 0, none⟩) k k)).setCell (p := ⟨r, 1, none⟩) (by rw [HRR.out]; exact Nat.le_refl _) (.slice (some ⟨b2, 0, none⟩) k k))
      have hx5 := (HXX.out.block (w' := wr.setCell ⟨r, 0, none⟩ (.slice (some ⟨b1, 0, none⟩) k k)) (heap_setCell_other _ _ _ _ HRN.out.1)).block (w' := (wr.setCell ⟨r, 0, none⟩ (.slice (some ⟨b1, 0, none⟩) k k)).setCell ⟨r, 1, none⟩ (.slice (some ⟨b2, 0, none⟩) k k)) (heap_setCell_other _ _ _ _ HRN.out.1)
      have hy5 := (HYY.out.block (w' := wr.setCell ⟨r, 0, none⟩ (.slice (some ⟨b1, 0, none⟩) k k)) (heap_setCell_other _ _ _ _ HRN.out.2)).block (w' := (wr.setCell ⟨r, 0, none⟩ (.slice (some ⟨b1, 0, none⟩) k k)).setCell ⟨r, 1, none⟩ (.slice (some ⟨b2, 0, none⟩) k k)) (heap_setCell_other _ _ _ _ HRN.out.2)
      refine bodyPost_ret (v := .tuple #[.agg #[.slice (some ⟨b1, 0, none⟩) k k, .slice (some ⟨b2, 0, none⟩) k k], .int .i64 0]) ?_ rfl ⟨_, _, _, _, rfl, ⟨hx5, hy5, HOK.out⟩, HB4.out⟩
      clear p0 p1 q0 q1 f0 f1 hx5 hy5
      generalize (wr.setCell ⟨r, 0, none⟩ (.slice (some ⟨b1, 0, none⟩) k k)).setCell ⟨r, 1, none⟩ (.slice (some ⟨b2, 0, none⟩) k k) = w4 at *
      have q0 := HR4.out.cellAt (i := 0) rfl
      have q1 := HR4.out.cellAt (i := 1) rfl
      rw [results_cell_tmp rfl]
      go_simp
end Go.Proofs.Ytigmgaedpdeleaa.Tl
