/- The walk of the statement SuperNext. -/
import Derived.Test.YtkhimoclikhlaaaSuR
import Derived.Test.YtkhimoclikhlaaaInv2
namespace Go.Proofs.Ytkhimoclikhlaaa.Su
open Go.RowKit Go.Shelf Go.Proofs.Ytkhimoclikhlaaa.Oct Go.Proofs.Ytkhimoclikhlaaa.Sf
set_option linter.unusedVariables false

theorem Pg.at {w : World} {g : Nat} {ps : List UInt8} (h : Pg w g ps) (k : Nat) (hk : k < 128) : w.cell? ⟨g, k, none⟩ = some (.int .u8 ((ps[k]'(by rw [h.len]; exact hk)).toNat : Int)) := by
  have := h.has k (by rw [h.len]; exact hk)
  rwa [Nat.zero_add] at this
theorem poke_byte (x p : UInt8) : ((x.toNat : Int) + (1 + (p.toNat : Int) % 255)) % 256 = ((x + UInt8.ofNat (1 + p.toNat % 255)).toNat : Int) := by
  rw [UInt8.toNat_add, UInt8.toNat_ofNat']
  omega
theorem poke_ne (x p : UInt8) : x + UInt8.ofNat (1 + p.toNat % 255) ≠ x := add_ne x _ (by rw [UInt8.toNat_ofNat']; omega)
/-- A page with one byte changed. -/
def poked (ps : List UInt8) (k : Nat) (p : UInt8) : List UInt8 := ps.set k (ps.getD k 0 + UInt8.ofNat (1 + p.toNat % 255))
theorem Pg.poke {w : World} {g : Nat} {ps : List UInt8} (h : Pg w g ps) (k : Nat) (hk : k < 128) (p : UInt8) : Pg (w.setCell ⟨g, k, none⟩ (.int .u8 (((ps[k]'(by rw [h.len]; exact hk)).toNat + (1 + (p.toNat : Int) % 255)) % 256))) g (poked ps k p) := by
  rw [poke_byte]
  unfold poked
  rw [List.getD_eq_getElem?_getD, List.getElem?_eq_getElem (by rw [h.len]; exact hk), Option.getD_some]
  exact h.set k hk _
theorem not_counts {s : Sup} (h : Ok s) (k j : Nat) (p : UInt8) (hk : k < 128) : ¬ Counts j (poked (supPage s) k p) := by
  rintro ⟨⟨-, hg, -, -⟩, -⟩
  have hl := length_supPage s
  unfold poked at hg
  rw [List.getD_eq_getElem?_getD, List.getElem?_eq_getElem (by rw [hl]; exact hk), Option.getD_some] at hg
  exact bad_set (supPage s) hl (page_good 6 _ (by rw [length_cbody]; exact Nat.le_refl _)) k (by rw [hl]; exact hk) _ (poke_ne _ p) hg
theorem Pg.fz {w : World} {g : Nat} {ps : List UInt8} (h : Pg w g ps) (k : Nat) (hk : k < 128) : w.frozen? ⟨g, k, none⟩ = false := by
  have := h.free k hk
  rwa [Nat.zero_add] at this
set_option maxRecDepth 100000 in
set_option maxHeartbeats 8000000 in
theorem next_walk (s t : Sup) (za zo zb : Int) (w : World) (hs : Ok s) (ht : Ok t) (ha : (Lit.int .u8 za).wf = true) (ho : (Lit.int .u8 zo).wf = true) (hb : (Lit.int .u8 zb).wf = true) : Calls Try.prog 6 #[sval s, sval t, .int .u8 za, .int .u8 zo, .int .u8 zb] w fun e w' => e = .returned (.bool true) ∧ Below w.heap.size w w' := by
  obtain ⟨pa, rfl⟩ := Oct.u8_of ha
  obtain ⟨po, rfl⟩ := Oct.u8_of ho
  obtain ⟨pb, rfl⟩ := Oct.u8_of hb
  clear ha ho hb
  have HA := Lib.hid (show ∀ w2 : World, Below w.heap.size w w2 → Calls Try.prog 10 #[] w2 fun e w' => e = .returned (.bool true) ∧ Below w.heap.size w w' from fun w2 k => (awake_any w2).mono fun e w' ⟨h1, h2⟩ => ⟨h1, k.trans (h2.mono k.size)⟩)
  have h0 := alloc_rowV w 27 (scells s)
  have k0 := (Below.refl w.heap.size w).alloc (Nat.le_refl _) (.cells (scells s).toArray 27)
  have s0 : (w.alloc (.cells (scells s).toArray 27)).heap.size = w.heap.size + 1 := by simp
  have h1 := alloc_rowV (w.alloc (.cells (scells s).toArray 27)) 27 (scells t)
  have k1 := (Below.refl (w.alloc (.cells (scells s).toArray 27)).heap.size (w.alloc (.cells (scells s).toArray 27))).alloc (Nat.le_refl _) (.cells (scells t).toArray 27)
  have HR1 := Lib.hid (h0.below h0.lt k1)
  have HB := Lib.hid (k0.trans (k1.mono k0.size))
  rw [s0] at h1
  have HR2 := Lib.hid h1
  clear h0 k0 h1 k1 s0
  unfold sval
  go_enter Try.func6, Try.ntmps6
  go_upto_region 1 with (fail)
  generalize (w.alloc (.cells (scells s).toArray 27)).alloc (.cells (scells t).toArray 27) = v0 at *
  have HT := Lib.hid (ok_after (s := s) ht)
  have HNA := Lib.hid (nth_after (s := s) ht)
  go_wp2_with (first | (refine wpList_load_row rfl 27 (.tmp 5) rfl w.heap.size rfl _ (scells s).toArray _ _ HR1.out Try.underlying27 rfl (size_scells _) ?_) | (refine wpList_load_row rfl 27 (.tmp 6) rfl (w.heap.size + 1) rfl _ (scells t).toArray _ _ HR2.out Try.underlying27 rfl (size_scells _) ?_))
  have zz := HR2.out.lt
  refine (whole_any s t hs ht v0).mono ?_
  rintro e v1 ⟨kk, hor⟩
  replace HR1 := Lib.hid (HR1.out.below HR1.out.lt kk)
  replace HR2 := Lib.hid (HR2.out.below HR2.out.lt kk)
  replace HB := Lib.hid (HB.out.trans (kk.mono HB.out.size))
  clear kk
  rcases hor with ⟨hno, rfl⟩ | ⟨fs, ft, g1, g2, gne, z1, z2, G1, G2, ⟨hp, rfl⟩ | ⟨hp, rfl⟩⟩
  · skip
    have hst := run_storeCells_new (P := Try.prog) v1 46 #[(.slice none 0 0), (.slice none 0 0)] #[(.slice none 0 0), (.slice none 0 0)] (by kernel_rfl) (by simp) (by first | kernel_rfl | decide | simp [Value.oneCell'])
    go_upto_region 2 with (fail)
    clear hst
    have HS := Lib.hid (alloc_rowV v1 46 [(.slice none 0 0), (.slice none 0 0)])
    have kk := (Below.refl v1.heap.size v1).alloc (Nat.le_refl _) (.cells #[(.slice none 0 0), (.slice none 0 0)] 46)
    change Hid (RowV (v1.alloc (.cells #[(.slice none 0 0), (.slice none 0 0)] 46)) _ _ _) at HS
    replace HR1 := Lib.hid (HR1.out.below HR1.out.lt kk)
    replace HR2 := Lib.hid (HR2.out.below HR2.out.lt kk)
    replace HB := Lib.hid (HB.out.trans (kk.mono HB.out.size))
    clear kk
    generalize v1.alloc (.cells #[(.slice none 0 0), (.slice none 0 0)] 46) = v2 at *
    have hS := HB.out.size
    generalize hss : v1.heap.size = ss at *
    go_wp2_with fail
    refine (HA.out _ HB.out).mono ?_
    rintro e wl ⟨rfl, kl⟩
    go_wp2_with fail
    go_ret
    exact ⟨rfl, kl⟩
  · skip
    have HG1 := Lib.hid G1
    have HG2 := Lib.hid G2
    clear G1 G2
    have yz := HR2.out.lt
    have yg := HG1.out.lt
    have yh := HG2.out.lt
    have hst := run_storeCells_new (P := Try.prog) v1 46 #[(.slice none 0 0), (.slice none 0 0)] #[.slice (some ⟨g1, 0, none⟩) 128 128, .slice (some ⟨g2, 0, none⟩) 128 128] (by kernel_rfl) (by simp) (by first | kernel_rfl | decide | simp [Value.oneCell'])
    go_upto_region 2 with (fail)
    clear hst
    have HS := Lib.hid (alloc_rowV v1 46 [.slice (some ⟨g1, 0, none⟩) 128 128, .slice (some ⟨g2, 0, none⟩) 128 128])
    have kk := (Below.refl v1.heap.size v1).alloc (Nat.le_refl _) (.cells #[.slice (some ⟨g1, 0, none⟩) 128 128, .slice (some ⟨g2, 0, none⟩) 128 128] 46)
    change Hid (RowV (v1.alloc (.cells #[.slice (some ⟨g1, 0, none⟩) 128 128, .slice (some ⟨g2, 0, none⟩) 128 128] 46)) _ _ _) at HS
    replace HR1 := Lib.hid (HR1.out.below HR1.out.lt kk)
    replace HR2 := Lib.hid (HR2.out.below HR2.out.lt kk)
    replace HG1 := Lib.hid (HG1.out.below kk)
    replace HG2 := Lib.hid (HG2.out.below kk)
    replace HB := Lib.hid (HB.out.trans (kk.mono HB.out.size))
    clear kk
    generalize v1.alloc (.cells #[.slice (some ⟨g1, 0, none⟩) 128 128, .slice (some ⟨g2, 0, none⟩) 128 128] 46) = v2 at *
    have hS := HB.out.size
    generalize hss : v1.heap.size = ss at *
    go_upto_region 4 with (fail)
    have HS0 := Lib.hid (fun wx : World => show Calls Try.prog 21 #[.int .u64 (nth s 0 : Int)] wx (fun e w' => e = .returned (.int .i64 0) ∧ wx = w') from (slot_any _ (hs.lt 0) wx).mono fun e w' ⟨h1, h2⟩ => ⟨by rw [h1, hp]; rfl, h2⟩)
    have HS1 := Lib.hid (fun wx : World => show Calls Try.prog 21 #[.int .u64 (nth (after s t) 0 : Int)] wx (fun e w' => e = .returned (.int .i64 1) ∧ wx = w') from (slot_any _ (HT.out.lt 0) wx).mono fun e w' ⟨h1, h2⟩ => ⟨by rw [h1, show nth (after s t) 0 % 2 = 1 by rw [HNA.out]; omega]; rfl, h2⟩)
    refine Inv2.wp_region_inv (fun b a wy => ∃ z13 z14 z27 z28 z29 z30 z31 z32 z33, a = ⟨(List.toArray (Value.agg (scells s).toArray :: Value.agg (scells t).toArray :: Value.int IntKind.u8 ↑pa.toNat :: Value.int IntKind.u8 ↑po.toNat :: Value.int IntKind.u8 ↑pb.toNat :: Value.pointer (some { block := w.heap.size, off := 0 }) :: Value.pointer (some { block := w.heap.size + 1, off := 0 }) :: undef :: undef :: undef :: Value.bool false :: Value.pointer (some { block := ss, off := 0 }) :: Value.bool true :: z13 :: z14 :: undef :: undef :: undef :: Value.tuple #[Value.agg #[Value.slice (some { block := g1, off := 0 }) 128 128, Value.slice (some { block := g2, off := 0 }) 128 128], Value.bool true] :: Value.agg (scells s).toArray :: Value.agg (scells t).toArray :: Value.tuple #[Value.agg #[Value.slice (some { block := g1, off := 0 }) 128 128, Value.slice (some { block := g2, off := 0 }) 128 128], Value.bool true] :: Value.agg #[Value.slice (some { block := g1, off := 0 }) 128 128, Value.slice (some { block := g2, off := 0 }) 128 128] :: Value.bool true :: Value.bool true :: Value.bool false :: undef :: z27 :: z28 :: z29 :: z30 :: z31 :: z32 :: z33 :: undef :: undef :: undef :: undef :: undef :: undef :: undef :: undef :: undef :: undef :: undef :: undef :: undef :: undef :: undef :: undef :: undef :: undef :: undef :: undef :: undef :: undef :: undef :: undef :: undef :: undef :: undef :: undef :: undef :: undef :: undef :: undef :: undef :: undef :: undef :: undef :: undef :: undef :: undef :: undef :: undef :: undef :: undef :: undef :: undef :: undef :: undef :: undef :: undef :: undef :: undef :: undef :: undef :: undef :: undef :: undef :: undef :: undef :: undef :: undef :: undef :: undef :: undef :: undef :: undef :: undef :: undef :: undef :: undef :: undef :: undef :: undef :: undef :: undef :: undef :: undef :: undef :: undef :: undef :: undef :: undef :: undef :: undef :: undef :: undef :: undef :: undef :: undef :: undef :: undef :: undef :: undef :: undef :: undef :: undef :: undef :: undef :: undef :: [])), []⟩ ∧ Hid ((b 0 = true → z27 = .pointer (some ⟨w.heap.size, 0, none⟩)) ∧ (b 1 = true → z28 = .int .u64 (nth s 0 : Int)) ∧ (b 2 = true → z29 = .int .u64 (nth (after s t) 0 : Int)) ∧ (b 3 = true → z30 = .int .i64 1) ∧ (b 4 = true → z31 = .pointer (some ⟨w.heap.size, 0, none⟩)) ∧ (b 5 = true → z32 = .int .u64 (nth s 0 : Int)) ∧ (b 6 = true → z33 = .int .i64 0) ∧ (b 7 = true → z13 = .int .i64 1) ∧ (b 8 = true → z14 = .int .i64 0)) ∧ Hid (Below v2.heap.size v2 wy) ∧ Hid (RowV wy w.heap.size 27 (scells s))) (by kernel_rfl) (by kernel_rfl) ?startN0 ?stepsN0 ?doneN0
    case startN0 =>
      intro b hb
      refine ⟨undef, undef, undef, undef, undef, undef, undef, undef, undef, rfl, Lib.hid ⟨?_, ?_, ?_, ?_, ?_, ?_, ?_, ?_, ?_⟩, Lib.hid ((show Still v2 v2.drew from ⟨rfl, rfl, rfl, rfl⟩).below _), Lib.hid (HR1.out.below HR1.out.lt ((show Still v2 v2.drew from ⟨rfl, rfl, rfl, rfl⟩).below _))⟩
      all_goals (intro e; first | rfl | (rw [hb _ (by decide)] at e; cases e))
    case stepsN0 =>
      refine ⟨?_, ?_, ?_, ?_, ?_, ?_, ?_, ?_, ?_, trivial⟩
      · rintro b a wy hb hd ⟨z13, z14, z27, z28, z29, z30, z31, z32, z33, rfl, HV, HW, HX⟩ K hK
        obtain ⟨h0, h1, h2, h3, h4, h5, h6, h7, h8⟩ := HV.out
        clear hd
        go_simp
        exact hK _ _ ⟨_, _, _, _, _, _, _, _, _, rfl, Lib.hid ⟨fun _ => rfl, h1, h2, h3, h4, h5, h6, h7, h8⟩, HW, HX⟩
      · rintro b a wy hb hd ⟨z13, z14, z27, z28, z29, z30, z31, z32, z33, rfl, HV, HW, HX⟩ K hK
        obtain ⟨h0, h1, h2, h3, h4, h5, h6, h7, h8⟩ := HV.out
        simp [Region.binds] at hd
        obtain rfl := h0 (by simp [hd])
        clear hd
        have hc := (HX.out).cellAt (scells_at s 0 (by decide))
        rw [scell_wide _ _ (.inl rfl)] at hc
        go_simp
        exact hK _ _ ⟨_, _, _, _, _, _, _, _, _, rfl, Lib.hid ⟨h0, fun _ => rfl, h2, h3, h4, h5, h6, h7, h8⟩, HW, HX⟩
      · rintro b a wy hb hd ⟨z13, z14, z27, z28, z29, z30, z31, z32, z33, rfl, HV, HW, HX⟩ K hK
        obtain ⟨h0, h1, h2, h3, h4, h5, h6, h7, h8⟩ := HV.out
        simp [Region.binds] at hd
        obtain rfl := h1 (by simp [hd])
        clear hd
        go_simp
        exact hK _ _ ⟨_, _, _, _, _, _, _, _, _, rfl, Lib.hid ⟨h0, h1, fun _ => (by rw [show IntKind.u64.wrap ((nth s 0 : Int) + 1) = (nth (after s t) 0 : Int) by rw [HNA.out]; go_num]), h3, h4, h5, h6, h7, h8⟩, HW, HX⟩
      · rintro b a wy hb hd ⟨z13, z14, z27, z28, z29, z30, z31, z32, z33, rfl, HV, HW, HX⟩ K hK
        obtain ⟨h0, h1, h2, h3, h4, h5, h6, h7, h8⟩ := HV.out
        simp [Region.binds] at hd
        obtain rfl := h2 (by simp [hd])
        clear hd
        go_simp
        go_at_call 21
        refine (HS1.out _).mono ?_
        rintro e wz ⟨rfl, rfl⟩
        try go_simp
        exact hK _ _ ⟨_, _, _, _, _, _, _, _, _, rfl, Lib.hid ⟨h0, h1, h2, fun _ => rfl, h4, h5, h6, h7, h8⟩, HW, HX⟩
      · rintro b a wy hb hd ⟨z13, z14, z27, z28, z29, z30, z31, z32, z33, rfl, HV, HW, HX⟩ K hK
        obtain ⟨h0, h1, h2, h3, h4, h5, h6, h7, h8⟩ := HV.out
        clear hd
        go_simp
        exact hK _ _ ⟨_, _, _, _, _, _, _, _, _, rfl, Lib.hid ⟨h0, h1, h2, h3, fun _ => rfl, h5, h6, h7, h8⟩, HW, HX⟩
      · rintro b a wy hb hd ⟨z13, z14, z27, z28, z29, z30, z31, z32, z33, rfl, HV, HW, HX⟩ K hK
        obtain ⟨h0, h1, h2, h3, h4, h5, h6, h7, h8⟩ := HV.out
        simp [Region.binds] at hd
        obtain rfl := h4 (by simp [hd])
        clear hd
        have hc := (HX.out).cellAt (scells_at s 0 (by decide))
        rw [scell_wide _ _ (.inl rfl)] at hc
        go_simp
        exact hK _ _ ⟨_, _, _, _, _, _, _, _, _, rfl, Lib.hid ⟨h0, h1, h2, h3, h4, fun _ => rfl, h6, h7, h8⟩, HW, HX⟩
      · rintro b a wy hb hd ⟨z13, z14, z27, z28, z29, z30, z31, z32, z33, rfl, HV, HW, HX⟩ K hK
        obtain ⟨h0, h1, h2, h3, h4, h5, h6, h7, h8⟩ := HV.out
        simp [Region.binds] at hd
        obtain rfl := h5 (by simp [hd])
        clear hd
        go_simp
        go_at_call 21
        refine (HS0.out _).mono ?_
        rintro e wz ⟨rfl, rfl⟩
        try go_simp
        exact hK _ _ ⟨_, _, _, _, _, _, _, _, _, rfl, Lib.hid ⟨h0, h1, h2, h3, h4, h5, fun _ => rfl, h7, h8⟩, HW, HX⟩
      · rintro b a wy hb hd ⟨z13, z14, z27, z28, z29, z30, z31, z32, z33, rfl, HV, HW, HX⟩ K hK
        obtain ⟨h0, h1, h2, h3, h4, h5, h6, h7, h8⟩ := HV.out
        simp [Region.binds] at hd
        obtain rfl := h3 (by simp [hd])
        clear hd
        go_simp
        exact hK _ _ ⟨_, _, _, _, _, _, _, _, _, rfl, Lib.hid ⟨h0, h1, h2, h3, h4, h5, h6, fun _ => rfl, h8⟩, HW, HX⟩
      · rintro b a wy hb hd ⟨z13, z14, z27, z28, z29, z30, z31, z32, z33, rfl, HV, HW, HX⟩ K hK
        obtain ⟨h0, h1, h2, h3, h4, h5, h6, h7, h8⟩ := HV.out
        simp [Region.binds] at hd
        obtain rfl := h6 (by simp [hd])
        clear hd
        go_simp
        exact hK _ _ ⟨_, _, _, _, _, _, _, _, _, rfl, Lib.hid ⟨h0, h1, h2, h3, h4, h5, h6, h7, fun _ => rfl⟩, HW, HX⟩
    case doneN0 =>
      rintro b a wy hb ⟨z13, z14, z27, z28, z29, z30, z31, z32, z33, rfl, HV, HW, HX⟩
      obtain ⟨h0, h1, h2, h3, h4, h5, h6, h7, h8⟩ := HV.out
      obtain rfl := h0 (hb 0)
      obtain rfl := h1 (hb 1)
      obtain rfl := h2 (hb 2)
      obtain rfl := h3 (hb 3)
      obtain rfl := h4 (hb 4)
      obtain rfl := h5 (hb 5)
      obtain rfl := h6 (hb 6)
      obtain rfl := h7 (hb 7)
      obtain rfl := h8 (hb 8)
      clear HV h0 h1 h2 h3 h4 h5 h6 h7 h8
      clear hb HX HS0 HS1
      have kk := HW.out
      clear HW
      generalize wy = v3 at *
      replace HR1 := Lib.hid (HR1.out.below HR1.out.lt kk)
      replace HR2 := Lib.hid (HR2.out.below HR2.out.lt kk)
      replace HS := Lib.hid (HS.out.below HS.out.lt kk)
      replace HG1 := Lib.hid (HG1.out.below kk)
      replace HG2 := Lib.hid (HG2.out.below kk)
      replace HB := Lib.hid (HB.out.trans (kk.mono HB.out.size))
      clear kk
      have o0 := HS.out.cellAt (i := 0) rfl
      have o1 := HS.out.cellAt (i := 1) rfl
      have HGT := Lib.hid (show nth s 0 < nth (after s t) 0 by have h1 : 1 ≤ nth (after s t) 0 := ft.1; have h2 := HNA.out; have h3 := hs.lt 0; omega)
      have HP1 := Lib.hid (show nth (after s t) 0 % 2 = 1 by rw [HNA.out]; omega)
      go_wp2_with fail
      refine (pick_bts HG1.out.bts HG2.out.bts (pick_both hs HT.out fs ft hp HP1.out HGT.out)).mono ?_
      rintro e v4 ⟨rfl, kk⟩
      replace HR1 := Lib.hid (HR1.out.below HR1.out.lt kk)
      replace HR2 := Lib.hid (HR2.out.below HR2.out.lt kk)
      replace HS := Lib.hid (HS.out.below HS.out.lt kk)
      replace HG1 := Lib.hid (HG1.out.below kk)
      replace HG2 := Lib.hid (HG2.out.below kk)
      replace HB := Lib.hid (HB.out.trans (kk.mono HB.out.size))
      clear kk
      clear o0 o1
      have x1 := HR2.out.lt
      have x2 := HS.out.lt
      have x3 := HG1.out.lt
      have x4 := HG2.out.lt
      have hst := run_storeCells_new (P := Try.prog) v4 27 #[(.int .u64 0), (.int .u32 0), (.int .u32 0), (.int .u32 0), (.int .u32 0), (.int .u32 0), (.int .u32 0), (.int .u32 0), (.int .u32 0), (.int .u32 0), (.int .u64 0), (.int .u64 0), (.int .u64 0), (.int .u64 0), (.int .u64 0), (.int .u64 0), (.int .u64 0), (.int .u64 0)] (scells (after s t)).toArray (size_scells _) (by simp [length_scells]) (one_scells _)
      have hlc := length_scells (after s t)
      go_upto_region 6 with (fail)
      clear hst hlc
      have HX := Lib.hid (alloc_rowV v4 27 (scells (after s t)))
      have kk := (Below.refl v4.heap.size v4).alloc (Nat.le_refl _) (.cells (scells (after s t)).toArray 27)
      replace HR1 := Lib.hid (HR1.out.below HR1.out.lt kk)
      replace HR2 := Lib.hid (HR2.out.below HR2.out.lt kk)
      replace HS := Lib.hid (HS.out.below HS.out.lt kk)
      replace HG1 := Lib.hid (HG1.out.below kk)
      replace HG2 := Lib.hid (HG2.out.below kk)
      replace HB := Lib.hid (HB.out.trans (kk.mono HB.out.size))
      clear kk
      generalize v4.alloc (.cells (scells (after s t)).toArray 27) = v5 at *
      generalize v4.heap.size = x15 at *
      have c5 := HR1.out.cellAt (scells_at s 0 (by decide))
      rw [scell_wide _ _ (.inl rfl)] at c5
      have c6 := HR2.out.cellAt (scells_at t 0 (by decide))
      rw [scell_wide _ _ (.inl rfl)] at c6
      have f6 := HR2.out.free 0
      go_upto_region 7 with (fail)
      clear c5 c6 f6
      have hwr : IntKind.u64.wrap ((nth s 0 : Int) + 1) = ((nth (after s t) 0 : Nat) : Int) := by rw [HNA.out]; go_num
      rw [hwr]
      clear hwr
      have kk := HB.out.setCell (p := ⟨w.heap.size + 1, 0, none⟩) (Nat.le_succ _) (.int .u64 (nth (after s t) 0 : Int))
      replace HR1 := Lib.hid (HR1.out.other (q := w.heap.size + 1) (i := 0) (v := (.int .u64 (nth (after s t) 0 : Int))) (by omega))
      replace HS := Lib.hid (HS.out.other (q := w.heap.size + 1) (i := 0) (v := (.int .u64 (nth (after s t) 0 : Int))) (by omega))
      replace HX := Lib.hid (HX.out.other (q := w.heap.size + 1) (i := 0) (v := (.int .u64 (nth (after s t) 0 : Int))) (by omega))
      replace HG1 := Lib.hid (HG1.out.other (q := w.heap.size + 1) (i := 0) (v := (.int .u64 (nth (after s t) 0 : Int))) (by omega))
      replace HG2 := Lib.hid (HG2.out.other (q := w.heap.size + 1) (i := 0) (v := (.int .u64 (nth (after s t) 0 : Int))) (by omega))
      have r2 := HR2.out.set 0 (.int .u64 (nth (after s t) 0 : Int))
      rw [scells_put t _ ht.len] at r2
      change RowV _ _ _ (scells (t.set 0 (nth (after s t) 0))) at r2
      rw [show t.set 0 (nth (after s t) 0) = after s t by unfold after; rw [nth_set t _ ht.len, if_pos rfl]] at r2
      replace HR2 := Lib.hid r2
      clear r2
      replace HB := Lib.hid kk
      clear kk
      generalize v5.setCell ⟨w.heap.size + 1, 0, none⟩ (.int .u64 (nth (after s t) 0 : Int)) = v6 at *
      have qn : (after s t == after s t) = true := by simp
      have qs : (s == s) = true := by simp
      go_upto_region 9 with (first | (refine wpList_load_row_g (by rfl) 27 (.tmp 15) rfl x15 rfl _ (scells (after s t)).toArray _ _ HX.out Try.underlying27 rfl (size_scells _) ?_) | (refine wpList_load_row_g (by rfl) 27 (.tmp 6) rfl (w.heap.size + 1) rfl _ (scells (after s t)).toArray _ _ HR2.out Try.underlying27 rfl (size_scells _) ?_) | (refine wpList_neq_sup (by rfl) (.tmp 55) (.tmp 56) _ rfl (after s t) (after s t) HT.out HT.out rfl rfl ?_; rw [qn]))
      obtain ⟨ka, hkka, ek⟩ : ∃ k : Nat, k < 128 ∧ (pa.toNat : Int) % 128 = (k : Int) := ⟨pa.toNat % 128, Nat.mod_lt _ (by decide), by omega⟩
      have o0 := HS.out.cellAt (i := 0) rfl
      have o1 := HS.out.cellAt (i := 1) rfl
      have hcell := HG2.out.at ka hkka
      have hfz := HG2.out.fz ka hkka
      go_upto_region 10 with (fail)
      clear o0 o1 hcell hfz ek
      have kk := HB.out.setCell (p := ⟨g2, ka, none⟩) (by show w.heap.size ≤ g2; omega) (.int .u8 ((((supPage (after s t))[ka]'(by rw [HG2.out.len]; exact hkka)).toNat + (1 + (pb.toNat : Int) % 255)) % 256))
      have gg := Lib.hid (HG2.out.poke ka hkka pb)
      replace HR1 := Lib.hid (HR1.out.other (q := g2) (i := ka) (v := (.int .u8 ((((supPage (after s t))[ka]'(by rw [HG2.out.len]; exact hkka)).toNat + (1 + (pb.toNat : Int) % 255)) % 256))) (by omega))
      replace HR2 := Lib.hid (HR2.out.other (q := g2) (i := ka) (v := (.int .u8 ((((supPage (after s t))[ka]'(by rw [HG2.out.len]; exact hkka)).toNat + (1 + (pb.toNat : Int) % 255)) % 256))) (by omega))
      replace HS := Lib.hid (HS.out.other (q := g2) (i := ka) (v := (.int .u8 ((((supPage (after s t))[ka]'(by rw [HG2.out.len]; exact hkka)).toNat + (1 + (pb.toNat : Int) % 255)) % 256))) (by omega))
      replace HX := Lib.hid (HX.out.other (q := g2) (i := ka) (v := (.int .u8 ((((supPage (after s t))[ka]'(by rw [HG2.out.len]; exact hkka)).toNat + (1 + (pb.toNat : Int) % 255)) % 256))) (by omega))
      replace HG1 := Lib.hid (HG1.out.other (q := g2) (i := ka) (v := (.int .u8 ((((supPage (after s t))[ka]'(by rw [HG2.out.len]; exact hkka)).toNat + (1 + (pb.toNat : Int) % 255)) % 256))) (by omega))
      replace HB := Lib.hid kk
      clear kk
      generalize v6.setCell ⟨g2, ka, none⟩ (.int .u8 ((((supPage (after s t))[ka]'(by rw [HG2.out.len]; exact hkka)).toNat + (1 + (pb.toNat : Int) % 255)) % 256)) = v7 at *
      replace HG2 := gg
      clear gg
      have o0 := HS.out.cellAt (i := 0) rfl
      have o1 := HS.out.cellAt (i := 1) rfl
      go_wp2_with fail
      refine (pick_bts HG1.out.bts HG2.out.bts (pick_first hs fs hp (not_counts HT.out ka 1 pb hkka))).mono ?_
      rintro e v8 ⟨rfl, kk⟩
      replace HR1 := Lib.hid (HR1.out.below HR1.out.lt kk)
      replace HR2 := Lib.hid (HR2.out.below HR2.out.lt kk)
      replace HS := Lib.hid (HS.out.below HS.out.lt kk)
      replace HX := Lib.hid (HX.out.below HX.out.lt kk)
      replace HG1 := Lib.hid (HG1.out.below kk)
      replace HG2 := Lib.hid (HG2.out.below kk)
      replace HB := Lib.hid (HB.out.trans (kk.mono HB.out.size))
      clear kk
      clear o0 o1
      go_upto_region 11 with (refine wpList_store_row rfl 27 (.tmp 15) (.tmp 82) rfl x15 (scells s).toArray rfl rfl _ _ HX.out (size_scells _) (by simp [length_scells]) (one_scells _) ?_)
      replace HR1 := Lib.hid (row_setRow_other HR1.out (scells s).toArray (q := x15) (by omega))
      replace HR2 := Lib.hid (row_setRow_other HR2.out (scells s).toArray (q := x15) (by omega))
      replace HS := Lib.hid (row_setRow_other HS.out (scells s).toArray (q := x15) (by omega))
      replace HG1 := Lib.hid (pg_setRow HG1.out (cs := (scells s).toArray) (q := x15) (by omega))
      replace HG2 := Lib.hid (pg_setRow HG2.out (cs := (scells s).toArray) (q := x15) (by omega))
      replace HX := Lib.hid (row_setRow_same (us := scells s) HX.out)
      replace HB := Lib.hid (HB.out.trans (setRow_below (scells s).toArray (show w.heap.size ≤ x15 by omega)))
      generalize v8.setRow x15 (scells s).toArray = v9 at *
      go_upto_region 13 with (first | (refine wpList_load_row_g (by rfl) 27 (.tmp 15) rfl x15 rfl _ (scells s).toArray _ _ HX.out Try.underlying27 rfl (size_scells _) ?_) | (refine wpList_load_row_g (by rfl) 27 (.tmp 5) rfl w.heap.size rfl _ (scells s).toArray _ _ HR1.out Try.underlying27 rfl (size_scells _) ?_) | (refine wpList_neq_sup (by rfl) (.tmp 93) (.tmp 94) _ rfl s s hs hs rfl rfl ?_; rw [qs]))
      obtain ⟨kb, hkkb, ek⟩ : ∃ k : Nat, k < 128 ∧ (po.toNat : Int) % 128 = (k : Int) := ⟨po.toNat % 128, Nat.mod_lt _ (by decide), by omega⟩
      have o0 := HS.out.cellAt (i := 0) rfl
      have o1 := HS.out.cellAt (i := 1) rfl
      have hcell := HG1.out.at kb hkkb
      have hfz := HG1.out.fz kb hkkb
      go_upto_region 14 with (fail)
      clear o0 o1 hcell hfz ek
      have kk := HB.out.setCell (p := ⟨g1, kb, none⟩) (by show w.heap.size ≤ g1; omega) (.int .u8 ((((supPage s)[kb]'(by rw [HG1.out.len]; exact hkkb)).toNat + (1 + (pb.toNat : Int) % 255)) % 256))
      have gg := Lib.hid (HG1.out.poke kb hkkb pb)
      replace HR1 := Lib.hid (HR1.out.other (q := g1) (i := kb) (v := (.int .u8 ((((supPage s)[kb]'(by rw [HG1.out.len]; exact hkkb)).toNat + (1 + (pb.toNat : Int) % 255)) % 256))) (by omega))
      replace HR2 := Lib.hid (HR2.out.other (q := g1) (i := kb) (v := (.int .u8 ((((supPage s)[kb]'(by rw [HG1.out.len]; exact hkkb)).toNat + (1 + (pb.toNat : Int) % 255)) % 256))) (by omega))
      replace HS := Lib.hid (HS.out.other (q := g1) (i := kb) (v := (.int .u8 ((((supPage s)[kb]'(by rw [HG1.out.len]; exact hkkb)).toNat + (1 + (pb.toNat : Int) % 255)) % 256))) (by omega))
      replace HX := Lib.hid (HX.out.other (q := g1) (i := kb) (v := (.int .u8 ((((supPage s)[kb]'(by rw [HG1.out.len]; exact hkkb)).toNat + (1 + (pb.toNat : Int) % 255)) % 256))) (by omega))
      replace HG2 := Lib.hid (HG2.out.other (q := g1) (i := kb) (v := (.int .u8 ((((supPage s)[kb]'(by rw [HG1.out.len]; exact hkkb)).toNat + (1 + (pb.toNat : Int) % 255)) % 256))) (by omega))
      replace HB := Lib.hid kk
      clear kk
      generalize v9.setCell ⟨g1, kb, none⟩ (.int .u8 ((((supPage s)[kb]'(by rw [HG1.out.len]; exact hkkb)).toNat + (1 + (pb.toNat : Int) % 255)) % 256)) = v10 at *
      replace HG1 := gg
      clear gg
      have o0 := HS.out.cellAt (i := 0) rfl
      have o1 := HS.out.cellAt (i := 1) rfl
      go_wp2_with fail
      refine (pick_bts HG1.out.bts HG2.out.bts (pick_none (not_counts hs kb 0 pb hkkb) (not_counts HT.out ka 1 pb hkka))).mono ?_
      rintro e v11 ⟨rfl, kk⟩
      replace HR1 := Lib.hid (HR1.out.below HR1.out.lt kk)
      replace HR2 := Lib.hid (HR2.out.below HR2.out.lt kk)
      replace HS := Lib.hid (HS.out.below HS.out.lt kk)
      replace HX := Lib.hid (HX.out.below HX.out.lt kk)
      replace HG1 := Lib.hid (HG1.out.below kk)
      replace HG2 := Lib.hid (HG2.out.below kk)
      replace HB := Lib.hid (HB.out.trans (kk.mono HB.out.size))
      clear kk
      clear o0 o1
      go_upto_region 15 with (refine wpList_store_row rfl 27 (.tmp 15) (.tmp 115) rfl x15 (scells zero18).toArray rfl rfl _ _ HX.out (size_scells _) (by simp [length_scells]) (one_scells _) ?_)
      replace HR1 := Lib.hid (row_setRow_other HR1.out (scells zero18).toArray (q := x15) (by omega))
      replace HR2 := Lib.hid (row_setRow_other HR2.out (scells zero18).toArray (q := x15) (by omega))
      replace HS := Lib.hid (row_setRow_other HS.out (scells zero18).toArray (q := x15) (by omega))
      replace HG1 := Lib.hid (pg_setRow HG1.out (cs := (scells zero18).toArray) (q := x15) (by omega))
      replace HG2 := Lib.hid (pg_setRow HG2.out (cs := (scells zero18).toArray) (q := x15) (by omega))
      replace HX := Lib.hid (row_setRow_same (us := scells zero18) HX.out)
      replace HB := Lib.hid (HB.out.trans (setRow_below (scells zero18).toArray (show w.heap.size ≤ x15 by omega)))
      generalize v11.setRow x15 (scells zero18).toArray = v12 at *
      have q2 : (zero18 == zero18) = true := by decide
      go_wp2_with (first | (refine wpList_load_row_g (by rfl) 27 (.tmp 15) rfl x15 rfl _ (scells zero18).toArray _ _ HX.out Try.underlying27 rfl (size_scells _) ?_) | (refine wpList_build_g (by rfl) 27 #[] rfl (scells zero18).toArray ?_ ?_; (simp [Act.eval]); exact built_zero) | (refine wpList_eql_sup (by rfl) (.tmp 125) (.tmp 126) _ rfl zero18 zero18 ok_zero ok_zero rfl rfl ?_; rw [q2]))
      refine (HA.out _ HB.out).mono ?_
      rintro e wl ⟨rfl, kl⟩
      go_wp2_with fail
      go_ret
      exact ⟨rfl, kl⟩
  · skip
    have HG1 := Lib.hid G1
    have HG2 := Lib.hid G2
    clear G1 G2
    have yz := HR2.out.lt
    have yg := HG1.out.lt
    have yh := HG2.out.lt
    have hst := run_storeCells_new (P := Try.prog) v1 46 #[(.slice none 0 0), (.slice none 0 0)] #[.slice (some ⟨g2, 0, none⟩) 128 128, .slice (some ⟨g1, 0, none⟩) 128 128] (by kernel_rfl) (by simp) (by first | kernel_rfl | decide | simp [Value.oneCell'])
    go_upto_region 2 with (fail)
    clear hst
    have HS := Lib.hid (alloc_rowV v1 46 [.slice (some ⟨g2, 0, none⟩) 128 128, .slice (some ⟨g1, 0, none⟩) 128 128])
    have kk := (Below.refl v1.heap.size v1).alloc (Nat.le_refl _) (.cells #[.slice (some ⟨g2, 0, none⟩) 128 128, .slice (some ⟨g1, 0, none⟩) 128 128] 46)
    change Hid (RowV (v1.alloc (.cells #[.slice (some ⟨g2, 0, none⟩) 128 128, .slice (some ⟨g1, 0, none⟩) 128 128] 46)) _ _ _) at HS
    replace HR1 := Lib.hid (HR1.out.below HR1.out.lt kk)
    replace HR2 := Lib.hid (HR2.out.below HR2.out.lt kk)
    replace HG1 := Lib.hid (HG1.out.below kk)
    replace HG2 := Lib.hid (HG2.out.below kk)
    replace HB := Lib.hid (HB.out.trans (kk.mono HB.out.size))
    clear kk
    generalize v1.alloc (.cells #[.slice (some ⟨g2, 0, none⟩) 128 128, .slice (some ⟨g1, 0, none⟩) 128 128] 46) = v2 at *
    have hS := HB.out.size
    generalize hss : v1.heap.size = ss at *
    go_upto_region 4 with (fail)
    have HS0 := Lib.hid (fun wx : World => show Calls Try.prog 21 #[.int .u64 (nth s 0 : Int)] wx (fun e w' => e = .returned (.int .i64 1) ∧ wx = w') from (slot_any _ (hs.lt 0) wx).mono fun e w' ⟨h1, h2⟩ => ⟨by rw [h1, hp]; rfl, h2⟩)
    have HS1 := Lib.hid (fun wx : World => show Calls Try.prog 21 #[.int .u64 (nth (after s t) 0 : Int)] wx (fun e w' => e = .returned (.int .i64 0) ∧ wx = w') from (slot_any _ (HT.out.lt 0) wx).mono fun e w' ⟨h1, h2⟩ => ⟨by rw [h1, show nth (after s t) 0 % 2 = 0 by rw [HNA.out]; omega]; rfl, h2⟩)
    refine Inv2.wp_region_inv (fun b a wy => ∃ z13 z14 z27 z28 z29 z30 z31 z32 z33, a = ⟨(List.toArray (Value.agg (scells s).toArray :: Value.agg (scells t).toArray :: Value.int IntKind.u8 ↑pa.toNat :: Value.int IntKind.u8 ↑po.toNat :: Value.int IntKind.u8 ↑pb.toNat :: Value.pointer (some { block := w.heap.size, off := 0 }) :: Value.pointer (some { block := w.heap.size + 1, off := 0 }) :: undef :: undef :: undef :: Value.bool false :: Value.pointer (some { block := ss, off := 0 }) :: Value.bool true :: z13 :: z14 :: undef :: undef :: undef :: Value.tuple #[Value.agg #[Value.slice (some { block := g2, off := 0 }) 128 128, Value.slice (some { block := g1, off := 0 }) 128 128], Value.bool true] :: Value.agg (scells s).toArray :: Value.agg (scells t).toArray :: Value.tuple #[Value.agg #[Value.slice (some { block := g2, off := 0 }) 128 128, Value.slice (some { block := g1, off := 0 }) 128 128], Value.bool true] :: Value.agg #[Value.slice (some { block := g2, off := 0 }) 128 128, Value.slice (some { block := g1, off := 0 }) 128 128] :: Value.bool true :: Value.bool true :: Value.bool false :: undef :: z27 :: z28 :: z29 :: z30 :: z31 :: z32 :: z33 :: undef :: undef :: undef :: undef :: undef :: undef :: undef :: undef :: undef :: undef :: undef :: undef :: undef :: undef :: undef :: undef :: undef :: undef :: undef :: undef :: undef :: undef :: undef :: undef :: undef :: undef :: undef :: undef :: undef :: undef :: undef :: undef :: undef :: undef :: undef :: undef :: undef :: undef :: undef :: undef :: undef :: undef :: undef :: undef :: undef :: undef :: undef :: undef :: undef :: undef :: undef :: undef :: undef :: undef :: undef :: undef :: undef :: undef :: undef :: undef :: undef :: undef :: undef :: undef :: undef :: undef :: undef :: undef :: undef :: undef :: undef :: undef :: undef :: undef :: undef :: undef :: undef :: undef :: undef :: undef :: undef :: undef :: undef :: undef :: undef :: undef :: undef :: undef :: undef :: undef :: undef :: undef :: undef :: undef :: undef :: undef :: undef :: undef :: [])), []⟩ ∧ Hid ((b 0 = true → z27 = .pointer (some ⟨w.heap.size, 0, none⟩)) ∧ (b 1 = true → z28 = .int .u64 (nth s 0 : Int)) ∧ (b 2 = true → z29 = .int .u64 (nth (after s t) 0 : Int)) ∧ (b 3 = true → z30 = .int .i64 0) ∧ (b 4 = true → z31 = .pointer (some ⟨w.heap.size, 0, none⟩)) ∧ (b 5 = true → z32 = .int .u64 (nth s 0 : Int)) ∧ (b 6 = true → z33 = .int .i64 1) ∧ (b 7 = true → z13 = .int .i64 0) ∧ (b 8 = true → z14 = .int .i64 1)) ∧ Hid (Below v2.heap.size v2 wy) ∧ Hid (RowV wy w.heap.size 27 (scells s))) (by kernel_rfl) (by kernel_rfl) ?startN1 ?stepsN1 ?doneN1
    case startN1 =>
      intro b hb
      refine ⟨undef, undef, undef, undef, undef, undef, undef, undef, undef, rfl, Lib.hid ⟨?_, ?_, ?_, ?_, ?_, ?_, ?_, ?_, ?_⟩, Lib.hid ((show Still v2 v2.drew from ⟨rfl, rfl, rfl, rfl⟩).below _), Lib.hid (HR1.out.below HR1.out.lt ((show Still v2 v2.drew from ⟨rfl, rfl, rfl, rfl⟩).below _))⟩
      all_goals (intro e; first | rfl | (rw [hb _ (by decide)] at e; cases e))
    case stepsN1 =>
      refine ⟨?_, ?_, ?_, ?_, ?_, ?_, ?_, ?_, ?_, trivial⟩
      · rintro b a wy hb hd ⟨z13, z14, z27, z28, z29, z30, z31, z32, z33, rfl, HV, HW, HX⟩ K hK
        obtain ⟨h0, h1, h2, h3, h4, h5, h6, h7, h8⟩ := HV.out
        clear hd
        go_simp
        exact hK _ _ ⟨_, _, _, _, _, _, _, _, _, rfl, Lib.hid ⟨fun _ => rfl, h1, h2, h3, h4, h5, h6, h7, h8⟩, HW, HX⟩
      · rintro b a wy hb hd ⟨z13, z14, z27, z28, z29, z30, z31, z32, z33, rfl, HV, HW, HX⟩ K hK
        obtain ⟨h0, h1, h2, h3, h4, h5, h6, h7, h8⟩ := HV.out
        simp [Region.binds] at hd
        obtain rfl := h0 (by simp [hd])
        clear hd
        have hc := (HX.out).cellAt (scells_at s 0 (by decide))
        rw [scell_wide _ _ (.inl rfl)] at hc
        go_simp
        exact hK _ _ ⟨_, _, _, _, _, _, _, _, _, rfl, Lib.hid ⟨h0, fun _ => rfl, h2, h3, h4, h5, h6, h7, h8⟩, HW, HX⟩
      · rintro b a wy hb hd ⟨z13, z14, z27, z28, z29, z30, z31, z32, z33, rfl, HV, HW, HX⟩ K hK
        obtain ⟨h0, h1, h2, h3, h4, h5, h6, h7, h8⟩ := HV.out
        simp [Region.binds] at hd
        obtain rfl := h1 (by simp [hd])
        clear hd
        go_simp
        exact hK _ _ ⟨_, _, _, _, _, _, _, _, _, rfl, Lib.hid ⟨h0, h1, fun _ => (by rw [show IntKind.u64.wrap ((nth s 0 : Int) + 1) = (nth (after s t) 0 : Int) by rw [HNA.out]; go_num]), h3, h4, h5, h6, h7, h8⟩, HW, HX⟩
      · rintro b a wy hb hd ⟨z13, z14, z27, z28, z29, z30, z31, z32, z33, rfl, HV, HW, HX⟩ K hK
        obtain ⟨h0, h1, h2, h3, h4, h5, h6, h7, h8⟩ := HV.out
        simp [Region.binds] at hd
        obtain rfl := h2 (by simp [hd])
        clear hd
        go_simp
        go_at_call 21
        refine (HS1.out _).mono ?_
        rintro e wz ⟨rfl, rfl⟩
        try go_simp
        exact hK _ _ ⟨_, _, _, _, _, _, _, _, _, rfl, Lib.hid ⟨h0, h1, h2, fun _ => rfl, h4, h5, h6, h7, h8⟩, HW, HX⟩
      · rintro b a wy hb hd ⟨z13, z14, z27, z28, z29, z30, z31, z32, z33, rfl, HV, HW, HX⟩ K hK
        obtain ⟨h0, h1, h2, h3, h4, h5, h6, h7, h8⟩ := HV.out
        clear hd
        go_simp
        exact hK _ _ ⟨_, _, _, _, _, _, _, _, _, rfl, Lib.hid ⟨h0, h1, h2, h3, fun _ => rfl, h5, h6, h7, h8⟩, HW, HX⟩
      · rintro b a wy hb hd ⟨z13, z14, z27, z28, z29, z30, z31, z32, z33, rfl, HV, HW, HX⟩ K hK
        obtain ⟨h0, h1, h2, h3, h4, h5, h6, h7, h8⟩ := HV.out
        simp [Region.binds] at hd
        obtain rfl := h4 (by simp [hd])
        clear hd
        have hc := (HX.out).cellAt (scells_at s 0 (by decide))
        rw [scell_wide _ _ (.inl rfl)] at hc
        go_simp
        exact hK _ _ ⟨_, _, _, _, _, _, _, _, _, rfl, Lib.hid ⟨h0, h1, h2, h3, h4, fun _ => rfl, h6, h7, h8⟩, HW, HX⟩
      · rintro b a wy hb hd ⟨z13, z14, z27, z28, z29, z30, z31, z32, z33, rfl, HV, HW, HX⟩ K hK
        obtain ⟨h0, h1, h2, h3, h4, h5, h6, h7, h8⟩ := HV.out
        simp [Region.binds] at hd
        obtain rfl := h5 (by simp [hd])
        clear hd
        go_simp
        go_at_call 21
        refine (HS0.out _).mono ?_
        rintro e wz ⟨rfl, rfl⟩
        try go_simp
        exact hK _ _ ⟨_, _, _, _, _, _, _, _, _, rfl, Lib.hid ⟨h0, h1, h2, h3, h4, h5, fun _ => rfl, h7, h8⟩, HW, HX⟩
      · rintro b a wy hb hd ⟨z13, z14, z27, z28, z29, z30, z31, z32, z33, rfl, HV, HW, HX⟩ K hK
        obtain ⟨h0, h1, h2, h3, h4, h5, h6, h7, h8⟩ := HV.out
        simp [Region.binds] at hd
        obtain rfl := h3 (by simp [hd])
        clear hd
        go_simp
        exact hK _ _ ⟨_, _, _, _, _, _, _, _, _, rfl, Lib.hid ⟨h0, h1, h2, h3, h4, h5, h6, fun _ => rfl, h8⟩, HW, HX⟩
      · rintro b a wy hb hd ⟨z13, z14, z27, z28, z29, z30, z31, z32, z33, rfl, HV, HW, HX⟩ K hK
        obtain ⟨h0, h1, h2, h3, h4, h5, h6, h7, h8⟩ := HV.out
        simp [Region.binds] at hd
        obtain rfl := h6 (by simp [hd])
        clear hd
        go_simp
        exact hK _ _ ⟨_, _, _, _, _, _, _, _, _, rfl, Lib.hid ⟨h0, h1, h2, h3, h4, h5, h6, h7, fun _ => rfl⟩, HW, HX⟩
    case doneN1 =>
      rintro b a wy hb ⟨z13, z14, z27, z28, z29, z30, z31, z32, z33, rfl, HV, HW, HX⟩
      obtain ⟨h0, h1, h2, h3, h4, h5, h6, h7, h8⟩ := HV.out
      obtain rfl := h0 (hb 0)
      obtain rfl := h1 (hb 1)
      obtain rfl := h2 (hb 2)
      obtain rfl := h3 (hb 3)
      obtain rfl := h4 (hb 4)
      obtain rfl := h5 (hb 5)
      obtain rfl := h6 (hb 6)
      obtain rfl := h7 (hb 7)
      obtain rfl := h8 (hb 8)
      clear HV h0 h1 h2 h3 h4 h5 h6 h7 h8
      clear hb HX HS0 HS1
      have kk := HW.out
      clear HW
      generalize wy = v3 at *
      replace HR1 := Lib.hid (HR1.out.below HR1.out.lt kk)
      replace HR2 := Lib.hid (HR2.out.below HR2.out.lt kk)
      replace HS := Lib.hid (HS.out.below HS.out.lt kk)
      replace HG1 := Lib.hid (HG1.out.below kk)
      replace HG2 := Lib.hid (HG2.out.below kk)
      replace HB := Lib.hid (HB.out.trans (kk.mono HB.out.size))
      clear kk
      have o0 := HS.out.cellAt (i := 0) rfl
      have o1 := HS.out.cellAt (i := 1) rfl
      have HGT := Lib.hid (show nth s 0 < nth (after s t) 0 by have h1 : 1 ≤ nth (after s t) 0 := ft.1; have h2 := HNA.out; have h3 := hs.lt 0; omega)
      have HP1 := Lib.hid (show nth (after s t) 0 % 2 = 0 by rw [HNA.out]; omega)
      go_wp2_with fail
      refine (pick_bts HG2.out.bts HG1.out.bts (pick_both' HT.out hs ft fs HP1.out hp HGT.out)).mono ?_
      rintro e v4 ⟨rfl, kk⟩
      replace HR1 := Lib.hid (HR1.out.below HR1.out.lt kk)
      replace HR2 := Lib.hid (HR2.out.below HR2.out.lt kk)
      replace HS := Lib.hid (HS.out.below HS.out.lt kk)
      replace HG1 := Lib.hid (HG1.out.below kk)
      replace HG2 := Lib.hid (HG2.out.below kk)
      replace HB := Lib.hid (HB.out.trans (kk.mono HB.out.size))
      clear kk
      clear o0 o1
      have x1 := HR2.out.lt
      have x2 := HS.out.lt
      have x3 := HG1.out.lt
      have x4 := HG2.out.lt
      have hst := run_storeCells_new (P := Try.prog) v4 27 #[(.int .u64 0), (.int .u32 0), (.int .u32 0), (.int .u32 0), (.int .u32 0), (.int .u32 0), (.int .u32 0), (.int .u32 0), (.int .u32 0), (.int .u32 0), (.int .u64 0), (.int .u64 0), (.int .u64 0), (.int .u64 0), (.int .u64 0), (.int .u64 0), (.int .u64 0), (.int .u64 0)] (scells (after s t)).toArray (size_scells _) (by simp [length_scells]) (one_scells _)
      have hlc := length_scells (after s t)
      go_upto_region 6 with (fail)
      clear hst hlc
      have HX := Lib.hid (alloc_rowV v4 27 (scells (after s t)))
      have kk := (Below.refl v4.heap.size v4).alloc (Nat.le_refl _) (.cells (scells (after s t)).toArray 27)
      replace HR1 := Lib.hid (HR1.out.below HR1.out.lt kk)
      replace HR2 := Lib.hid (HR2.out.below HR2.out.lt kk)
      replace HS := Lib.hid (HS.out.below HS.out.lt kk)
      replace HG1 := Lib.hid (HG1.out.below kk)
      replace HG2 := Lib.hid (HG2.out.below kk)
      replace HB := Lib.hid (HB.out.trans (kk.mono HB.out.size))
      clear kk
      generalize v4.alloc (.cells (scells (after s t)).toArray 27) = v5 at *
      generalize v4.heap.size = x15 at *
      have c5 := HR1.out.cellAt (scells_at s 0 (by decide))
      rw [scell_wide _ _ (.inl rfl)] at c5
      have c6 := HR2.out.cellAt (scells_at t 0 (by decide))
      rw [scell_wide _ _ (.inl rfl)] at c6
      have f6 := HR2.out.free 0
      go_upto_region 7 with (fail)
      clear c5 c6 f6
      have hwr : IntKind.u64.wrap ((nth s 0 : Int) + 1) = ((nth (after s t) 0 : Nat) : Int) := by rw [HNA.out]; go_num
      rw [hwr]
      clear hwr
      have kk := HB.out.setCell (p := ⟨w.heap.size + 1, 0, none⟩) (Nat.le_succ _) (.int .u64 (nth (after s t) 0 : Int))
      replace HR1 := Lib.hid (HR1.out.other (q := w.heap.size + 1) (i := 0) (v := (.int .u64 (nth (after s t) 0 : Int))) (by omega))
      replace HS := Lib.hid (HS.out.other (q := w.heap.size + 1) (i := 0) (v := (.int .u64 (nth (after s t) 0 : Int))) (by omega))
      replace HX := Lib.hid (HX.out.other (q := w.heap.size + 1) (i := 0) (v := (.int .u64 (nth (after s t) 0 : Int))) (by omega))
      replace HG1 := Lib.hid (HG1.out.other (q := w.heap.size + 1) (i := 0) (v := (.int .u64 (nth (after s t) 0 : Int))) (by omega))
      replace HG2 := Lib.hid (HG2.out.other (q := w.heap.size + 1) (i := 0) (v := (.int .u64 (nth (after s t) 0 : Int))) (by omega))
      have r2 := HR2.out.set 0 (.int .u64 (nth (after s t) 0 : Int))
      rw [scells_put t _ ht.len] at r2
      change RowV _ _ _ (scells (t.set 0 (nth (after s t) 0))) at r2
      rw [show t.set 0 (nth (after s t) 0) = after s t by unfold after; rw [nth_set t _ ht.len, if_pos rfl]] at r2
      replace HR2 := Lib.hid r2
      clear r2
      replace HB := Lib.hid kk
      clear kk
      generalize v5.setCell ⟨w.heap.size + 1, 0, none⟩ (.int .u64 (nth (after s t) 0 : Int)) = v6 at *
      have qn : (after s t == after s t) = true := by simp
      have qs : (s == s) = true := by simp
      go_upto_region 9 with (first | (refine wpList_load_row_g (by rfl) 27 (.tmp 15) rfl x15 rfl _ (scells (after s t)).toArray _ _ HX.out Try.underlying27 rfl (size_scells _) ?_) | (refine wpList_load_row_g (by rfl) 27 (.tmp 6) rfl (w.heap.size + 1) rfl _ (scells (after s t)).toArray _ _ HR2.out Try.underlying27 rfl (size_scells _) ?_) | (refine wpList_neq_sup (by rfl) (.tmp 55) (.tmp 56) _ rfl (after s t) (after s t) HT.out HT.out rfl rfl ?_; rw [qn]))
      obtain ⟨ka, hkka, ek⟩ : ∃ k : Nat, k < 128 ∧ (pa.toNat : Int) % 128 = (k : Int) := ⟨pa.toNat % 128, Nat.mod_lt _ (by decide), by omega⟩
      have o0 := HS.out.cellAt (i := 0) rfl
      have o1 := HS.out.cellAt (i := 1) rfl
      have hcell := HG2.out.at ka hkka
      have hfz := HG2.out.fz ka hkka
      go_upto_region 10 with (fail)
      clear o0 o1 hcell hfz ek
      have kk := HB.out.setCell (p := ⟨g2, ka, none⟩) (by show w.heap.size ≤ g2; omega) (.int .u8 ((((supPage (after s t))[ka]'(by rw [HG2.out.len]; exact hkka)).toNat + (1 + (pb.toNat : Int) % 255)) % 256))
      have gg := Lib.hid (HG2.out.poke ka hkka pb)
      replace HR1 := Lib.hid (HR1.out.other (q := g2) (i := ka) (v := (.int .u8 ((((supPage (after s t))[ka]'(by rw [HG2.out.len]; exact hkka)).toNat + (1 + (pb.toNat : Int) % 255)) % 256))) (by omega))
      replace HR2 := Lib.hid (HR2.out.other (q := g2) (i := ka) (v := (.int .u8 ((((supPage (after s t))[ka]'(by rw [HG2.out.len]; exact hkka)).toNat + (1 + (pb.toNat : Int) % 255)) % 256))) (by omega))
      replace HS := Lib.hid (HS.out.other (q := g2) (i := ka) (v := (.int .u8 ((((supPage (after s t))[ka]'(by rw [HG2.out.len]; exact hkka)).toNat + (1 + (pb.toNat : Int) % 255)) % 256))) (by omega))
      replace HX := Lib.hid (HX.out.other (q := g2) (i := ka) (v := (.int .u8 ((((supPage (after s t))[ka]'(by rw [HG2.out.len]; exact hkka)).toNat + (1 + (pb.toNat : Int) % 255)) % 256))) (by omega))
      replace HG1 := Lib.hid (HG1.out.other (q := g2) (i := ka) (v := (.int .u8 ((((supPage (after s t))[ka]'(by rw [HG2.out.len]; exact hkka)).toNat + (1 + (pb.toNat : Int) % 255)) % 256))) (by omega))
      replace HB := Lib.hid kk
      clear kk
      generalize v6.setCell ⟨g2, ka, none⟩ (.int .u8 ((((supPage (after s t))[ka]'(by rw [HG2.out.len]; exact hkka)).toNat + (1 + (pb.toNat : Int) % 255)) % 256)) = v7 at *
      replace HG2 := gg
      clear gg
      have o0 := HS.out.cellAt (i := 0) rfl
      have o1 := HS.out.cellAt (i := 1) rfl
      go_wp2_with fail
      refine (pick_bts HG2.out.bts HG1.out.bts (pick_second hs fs hp (not_counts HT.out ka 0 pb hkka))).mono ?_
      rintro e v8 ⟨rfl, kk⟩
      replace HR1 := Lib.hid (HR1.out.below HR1.out.lt kk)
      replace HR2 := Lib.hid (HR2.out.below HR2.out.lt kk)
      replace HS := Lib.hid (HS.out.below HS.out.lt kk)
      replace HX := Lib.hid (HX.out.below HX.out.lt kk)
      replace HG1 := Lib.hid (HG1.out.below kk)
      replace HG2 := Lib.hid (HG2.out.below kk)
      replace HB := Lib.hid (HB.out.trans (kk.mono HB.out.size))
      clear kk
      clear o0 o1
      go_upto_region 11 with (refine wpList_store_row rfl 27 (.tmp 15) (.tmp 82) rfl x15 (scells s).toArray rfl rfl _ _ HX.out (size_scells _) (by simp [length_scells]) (one_scells _) ?_)
      replace HR1 := Lib.hid (row_setRow_other HR1.out (scells s).toArray (q := x15) (by omega))
      replace HR2 := Lib.hid (row_setRow_other HR2.out (scells s).toArray (q := x15) (by omega))
      replace HS := Lib.hid (row_setRow_other HS.out (scells s).toArray (q := x15) (by omega))
      replace HG1 := Lib.hid (pg_setRow HG1.out (cs := (scells s).toArray) (q := x15) (by omega))
      replace HG2 := Lib.hid (pg_setRow HG2.out (cs := (scells s).toArray) (q := x15) (by omega))
      replace HX := Lib.hid (row_setRow_same (us := scells s) HX.out)
      replace HB := Lib.hid (HB.out.trans (setRow_below (scells s).toArray (show w.heap.size ≤ x15 by omega)))
      generalize v8.setRow x15 (scells s).toArray = v9 at *
      go_upto_region 13 with (first | (refine wpList_load_row_g (by rfl) 27 (.tmp 15) rfl x15 rfl _ (scells s).toArray _ _ HX.out Try.underlying27 rfl (size_scells _) ?_) | (refine wpList_load_row_g (by rfl) 27 (.tmp 5) rfl w.heap.size rfl _ (scells s).toArray _ _ HR1.out Try.underlying27 rfl (size_scells _) ?_) | (refine wpList_neq_sup (by rfl) (.tmp 93) (.tmp 94) _ rfl s s hs hs rfl rfl ?_; rw [qs]))
      obtain ⟨kb, hkkb, ek⟩ : ∃ k : Nat, k < 128 ∧ (po.toNat : Int) % 128 = (k : Int) := ⟨po.toNat % 128, Nat.mod_lt _ (by decide), by omega⟩
      have o0 := HS.out.cellAt (i := 0) rfl
      have o1 := HS.out.cellAt (i := 1) rfl
      have hcell := HG1.out.at kb hkkb
      have hfz := HG1.out.fz kb hkkb
      go_upto_region 14 with (fail)
      clear o0 o1 hcell hfz ek
      have kk := HB.out.setCell (p := ⟨g1, kb, none⟩) (by show w.heap.size ≤ g1; omega) (.int .u8 ((((supPage s)[kb]'(by rw [HG1.out.len]; exact hkkb)).toNat + (1 + (pb.toNat : Int) % 255)) % 256))
      have gg := Lib.hid (HG1.out.poke kb hkkb pb)
      replace HR1 := Lib.hid (HR1.out.other (q := g1) (i := kb) (v := (.int .u8 ((((supPage s)[kb]'(by rw [HG1.out.len]; exact hkkb)).toNat + (1 + (pb.toNat : Int) % 255)) % 256))) (by omega))
      replace HR2 := Lib.hid (HR2.out.other (q := g1) (i := kb) (v := (.int .u8 ((((supPage s)[kb]'(by rw [HG1.out.len]; exact hkkb)).toNat + (1 + (pb.toNat : Int) % 255)) % 256))) (by omega))
      replace HS := Lib.hid (HS.out.other (q := g1) (i := kb) (v := (.int .u8 ((((supPage s)[kb]'(by rw [HG1.out.len]; exact hkkb)).toNat + (1 + (pb.toNat : Int) % 255)) % 256))) (by omega))
      replace HX := Lib.hid (HX.out.other (q := g1) (i := kb) (v := (.int .u8 ((((supPage s)[kb]'(by rw [HG1.out.len]; exact hkkb)).toNat + (1 + (pb.toNat : Int) % 255)) % 256))) (by omega))
      replace HG2 := Lib.hid (HG2.out.other (q := g1) (i := kb) (v := (.int .u8 ((((supPage s)[kb]'(by rw [HG1.out.len]; exact hkkb)).toNat + (1 + (pb.toNat : Int) % 255)) % 256))) (by omega))
      replace HB := Lib.hid kk
      clear kk
      generalize v9.setCell ⟨g1, kb, none⟩ (.int .u8 ((((supPage s)[kb]'(by rw [HG1.out.len]; exact hkkb)).toNat + (1 + (pb.toNat : Int) % 255)) % 256)) = v10 at *
      replace HG1 := gg
      clear gg
      have o0 := HS.out.cellAt (i := 0) rfl
      have o1 := HS.out.cellAt (i := 1) rfl
      go_wp2_with fail
      refine (pick_bts HG2.out.bts HG1.out.bts (pick_none (not_counts HT.out ka 0 pb hkka) (not_counts hs kb 1 pb hkkb))).mono ?_
      rintro e v11 ⟨rfl, kk⟩
      replace HR1 := Lib.hid (HR1.out.below HR1.out.lt kk)
      replace HR2 := Lib.hid (HR2.out.below HR2.out.lt kk)
      replace HS := Lib.hid (HS.out.below HS.out.lt kk)
      replace HX := Lib.hid (HX.out.below HX.out.lt kk)
      replace HG1 := Lib.hid (HG1.out.below kk)
      replace HG2 := Lib.hid (HG2.out.below kk)
      replace HB := Lib.hid (HB.out.trans (kk.mono HB.out.size))
      clear kk
      clear o0 o1
      go_upto_region 15 with (refine wpList_store_row rfl 27 (.tmp 15) (.tmp 115) rfl x15 (scells zero18).toArray rfl rfl _ _ HX.out (size_scells _) (by simp [length_scells]) (one_scells _) ?_)
      replace HR1 := Lib.hid (row_setRow_other HR1.out (scells zero18).toArray (q := x15) (by omega))
      replace HR2 := Lib.hid (row_setRow_other HR2.out (scells zero18).toArray (q := x15) (by omega))
      replace HS := Lib.hid (row_setRow_other HS.out (scells zero18).toArray (q := x15) (by omega))
      replace HG1 := Lib.hid (pg_setRow HG1.out (cs := (scells zero18).toArray) (q := x15) (by omega))
      replace HG2 := Lib.hid (pg_setRow HG2.out (cs := (scells zero18).toArray) (q := x15) (by omega))
      replace HX := Lib.hid (row_setRow_same (us := scells zero18) HX.out)
      replace HB := Lib.hid (HB.out.trans (setRow_below (scells zero18).toArray (show w.heap.size ≤ x15 by omega)))
      generalize v11.setRow x15 (scells zero18).toArray = v12 at *
      have q2 : (zero18 == zero18) = true := by decide
      go_wp2_with (first | (refine wpList_load_row_g (by rfl) 27 (.tmp 15) rfl x15 rfl _ (scells zero18).toArray _ _ HX.out Try.underlying27 rfl (size_scells _) ?_) | (refine wpList_build_g (by rfl) 27 #[] rfl (scells zero18).toArray ?_ ?_; (simp [Act.eval]); exact built_zero) | (refine wpList_eql_sup (by rfl) (.tmp 125) (.tmp 126) _ rfl zero18 zero18 ok_zero ok_zero rfl rfl ?_; rw [q2]))
      refine (HA.out _ HB.out).mono ?_
      rintro e wl ⟨rfl, kl⟩
      go_wp2_with fail
      go_ret
      exact ⟨rfl, kl⟩
end Go.Proofs.Ytkhimoclikhlaaa.Su
