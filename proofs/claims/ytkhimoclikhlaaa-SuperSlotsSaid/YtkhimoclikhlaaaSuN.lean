/- The walk of the statement SuperSlots. -/
import Derived.Test.YtkhimoclikhlaaaSuP
import Derived.Test.YtkhimoclikhlaaaInv
namespace Go.Proofs.Ytkhimoclikhlaaa.Su
open Go.RowKit Go.Shelf Go.Proofs.Ytkhimoclikhlaaa.Oct Go.Proofs.Ytkhimoclikhlaaa.Sf
set_option linter.unusedVariables false

set_option maxRecDepth 100000 in
set_option maxHeartbeats 4000000 in
theorem slots_walk (s : Sup) (a : Option Addr) (len cap : Nat) (zs : List Int) (w : World) (hs : Ok s) (hz : Oct.IsRow .u8 w a len cap zs) : Calls Try.prog 7 #[sval s, .slice a len cap] w fun e w' => e = .returned (.bool true) ∧ Below w.heap.size w w' := by
  obtain ⟨bs, cb⟩ := Oct.came hz
  have hb : Bts w a len cap bs := ⟨cb.hlen, cb.told, cb.le, cb.hcap⟩
  clear hz cb
  have HA := Lib.hid (show ∀ w2 : World, Below w.heap.size w w2 → Calls Try.prog 10 #[] w2 fun e w' => e = .returned (.bool true) ∧ Below w.heap.size w w' from fun w2 k => (awake_any w2).mono fun e w' ⟨h1, h2⟩ => ⟨h1, k.trans (h2.mono k.size)⟩)
  have HR1 := Lib.hid (alloc_rowV w 27 (scells s))
  have HB := Lib.hid ((Below.refl w.heap.size w).alloc (Nat.le_refl _) (.cells (scells s).toArray 27))
  have HP2 := Lib.hid (hb.below HB.out)
  have hlen := hb.len
  have hcap := Nat.le_trans hb.le hb.cap
  clear hb
  have hg := hs.lt 0
  unfold maxLen at hcap
  unfold sval
  go_enter Try.func7, Try.ntmps7
  go_upto_region 1 with (fail)
  generalize w.alloc (.cells (scells s).toArray 27) = v0 at *
  by_cases fs : Fit s
  · skip
    go_wp2_with (refine wpList_load_row rfl 27 (.tmp 2) rfl w.heap.size rfl _ (scells s).toArray _ _ HR1.out Try.underlying27 rfl (size_scells _) ?_)
    refine (encode_bts s hs v0 fs).mono ?_
    rintro e v1 ⟨g1, rfl, P1, -, -, kk⟩
    replace HR1 := Lib.hid (HR1.out.below HR1.out.lt kk)
    replace HP2 := Lib.hid (HP2.out.below kk)
    replace HB := Lib.hid (HB.out.trans (kk.mono HB.out.size))
    have HP1 := Lib.hid P1
    clear P1
    clear kk
    go_wp2_with fail
    by_cases hh : Holds bs
    · skip
      have hdd : dsup bs = sIn bs ∧ derr bs = 0 := by unfold dsup derr; rw [if_pos hh, if_pos hh]; exact ⟨rfl, rfl⟩
      have HD := decode_bts HP2.out
      rw [hdd.1, hdd.2] at HD
      change Calls _ _ _ _ (fun e w' => e = .returned (.tuple #[.agg (scells (sIn bs)).toArray, .int .i64 0]) ∧ _) at HD
      refine (HD).mono ?_
      rintro e v2 ⟨rfl, kk⟩
      replace HR1 := Lib.hid (HR1.out.below HR1.out.lt kk)
      replace HP2 := Lib.hid (HP2.out.below kk)
      replace HP1 := Lib.hid (HP1.out.below kk)
      replace HB := Lib.hid (HB.out.trans (kk.mono HB.out.size))
      clear kk
      have hst := run_storeCells_new (P := Try.prog) v2 27 #[(.int .u64 0), (.int .u32 0), (.int .u32 0), (.int .u32 0), (.int .u32 0), (.int .u32 0), (.int .u32 0), (.int .u32 0), (.int .u32 0), (.int .u32 0), (.int .u64 0), (.int .u64 0), (.int .u64 0), (.int .u64 0), (.int .u64 0), (.int .u64 0), (.int .u64 0), (.int .u64 0)] (scells (sIn bs)).toArray (size_scells _) (by simp [length_scells]) (one_scells _)
      have hlc := length_scells (sIn bs)
      go_upto_region 3 with (fail)
      clear hst hlc
      have HX := Lib.hid (alloc_rowV v2 27 (scells (sIn bs)))
      have kk := (Below.refl v2.heap.size v2).alloc (Nat.le_refl _) (.cells (scells (sIn bs)).toArray 27)
      replace HR1 := Lib.hid (HR1.out.below HR1.out.lt kk)
      replace HP2 := Lib.hid (HP2.out.below kk)
      replace HP1 := Lib.hid (HP1.out.below kk)
      replace HB := Lib.hid (HB.out.trans (kk.mono HB.out.size))
      clear kk
      generalize v2.alloc (.cells (scells (sIn bs)).toArray 27) = v3 at *
      generalize v2.heap.size = x7 at *
      go_wp2_with fail
      refine (HA.out _ HB.out).mono ?_
      rintro e wl ⟨rfl, kl⟩
      go_wp2_with fail
      go_ret
      exact ⟨rfl, kl⟩
    · skip
      refine (decode_none hh HP2.out).mono ?_
      rintro e v2 ⟨rfl, kk⟩
      replace HR1 := Lib.hid (HR1.out.below HR1.out.lt kk)
      replace HP2 := Lib.hid (HP2.out.below kk)
      replace HP1 := Lib.hid (HP1.out.below kk)
      replace HB := Lib.hid (HB.out.trans (kk.mono HB.out.size))
      clear kk
      have hst := run_storeCells_new (P := Try.prog) v2 27 #[(.int .u64 0), (.int .u32 0), (.int .u32 0), (.int .u32 0), (.int .u32 0), (.int .u32 0), (.int .u32 0), (.int .u32 0), (.int .u32 0), (.int .u32 0), (.int .u64 0), (.int .u64 0), (.int .u64 0), (.int .u64 0), (.int .u64 0), (.int .u64 0), (.int .u64 0), (.int .u64 0)] (scells zero18).toArray (size_scells _) (by simp [length_scells]) (one_scells _)
      have hlc := length_scells zero18
      go_upto_region 3 with (fail)
      clear hst hlc
      have HX := Lib.hid (alloc_rowV v2 27 (scells zero18))
      have kk := (Below.refl v2.heap.size v2).alloc (Nat.le_refl _) (.cells (scells zero18).toArray 27)
      replace HR1 := Lib.hid (HR1.out.below HR1.out.lt kk)
      replace HP2 := Lib.hid (HP2.out.below kk)
      replace HP1 := Lib.hid (HP1.out.below kk)
      replace HB := Lib.hid (HB.out.trans (kk.mono HB.out.size))
      clear kk
      generalize v2.alloc (.cells (scells zero18).toArray 27) = v3 at *
      generalize v2.heap.size = x7 at *
      by_cases hl : (200 : Int) < (len : Int)
      · skip
        go_wp2_with fail
        refine (HA.out _ HB.out).mono ?_
        rintro e wl ⟨rfl, kl⟩
        go_wp2_with fail
        go_ret
        exact ⟨rfl, kl⟩
      · skip
        have ho := alloc_rowV v3 46 [.slice a len cap, .slice a len cap]
        have k0 := (Below.refl v3.heap.size v3).alloc (Nat.le_refl _) (.cells #[.slice a len cap, .slice a len cap] 46)
        have s0 : (v3.alloc (.cells #[.slice a len cap, .slice a len cap] 46)).heap.size = v3.heap.size + 1 := by simp
        have hw := alloc_rowV (v3.alloc (.cells #[.slice a len cap, .slice a len cap] 46)) 46 [.slice a len cap, .slice a len cap]
        have k1 := (Below.refl (v3.alloc (.cells #[.slice a len cap, .slice a len cap] 46)).heap.size (v3.alloc (.cells #[.slice a len cap, .slice a len cap] 46))).alloc (Nat.le_refl _) (.cells #[.slice a len cap, .slice a len cap] 46)
        rw [s0] at hw
        have HO := Lib.hid (ho.below ho.lt k1)
        have HW := Lib.hid hw
        have K1 := Lib.hid (k0.trans (k1.mono k0.size))
        change Hid (RowV ((v3.alloc (.cells #[.slice a len cap, .slice a len cap] 46)).alloc (.cells #[.slice a len cap, .slice a len cap] 46)) _ _ _) at HO
        change Hid (RowV ((v3.alloc (.cells #[.slice a len cap, .slice a len cap] 46)).alloc (.cells #[.slice a len cap, .slice a len cap] 46)) _ _ _) at HW
        clear ho k0 s0 hw k1
        go_upto_region 6 with (fail)
        generalize (v3.alloc (.cells #[.slice a len cap, .slice a len cap] 46)).alloc (.cells #[.slice a len cap, .slice a len cap] 46) = v4 at *
        have c0 := (HR1.out.below HR1.out.lt K1.out).cellAt (scells_at s 0 (by decide))
        rw [scell_wide _ _ (.inl rfl)] at c0
        have hlt := HR1.out.lt
        have o0 := HO.out.cellAt (i := 0) rfl
        have o1 := HO.out.cellAt (i := 1) rfl
        have w0 := HW.out.cellAt (i := 0) rfl
        have w1 := HW.out.cellAt (i := 1) rfl
        have fo := HO.out.free
        have fw := HW.out.free
        rcases Nat.mod_two_eq_zero_or_one (nth s 0) with hp | hp
        · skip
          have HS := Lib.hid (show Calls Try.prog 21 #[.int .u64 (nth s 0 : Int)] v4 fun e w' => e = .returned (.int .i64 0) ∧ v4 = w' from (slot_any (nth s 0) hg v4).mono fun e w' ⟨h1, h2⟩ => ⟨by rw [h1, hp]; rfl, h2⟩)
          have HO2 := Lib.hid (show RowV ((v4.setCell ⟨v3.heap.size, 0, none⟩ (.slice (some ⟨g1, 0, none⟩) 128 128)).setCell ⟨v3.heap.size + 1, 1, none⟩ (.slice (some ⟨g1, 0, none⟩) 128 128)) v3.heap.size 46 ([.slice (some ⟨g1, 0, none⟩) 128 128, .slice a len cap]) from (HO.out.set 0 (.slice (some ⟨g1, 0, none⟩) 128 128)).other (by omega))
          have HW2 := Lib.hid (show RowV ((v4.setCell ⟨v3.heap.size, 0, none⟩ (.slice (some ⟨g1, 0, none⟩) 128 128)).setCell ⟨v3.heap.size + 1, 1, none⟩ (.slice (some ⟨g1, 0, none⟩) 128 128)) (v3.heap.size + 1) 46 ([.slice a len cap, .slice (some ⟨g1, 0, none⟩) 128 128]) from (HW.out.other (by omega)).set 1 (.slice (some ⟨g1, 0, none⟩) 128 128))
          have kk := (K1.out.setCell (p := ⟨v3.heap.size, 0, none⟩) (Nat.le_refl _) (.slice (some ⟨g1, 0, none⟩) 128 128)).setCell (p := ⟨v3.heap.size + 1, 1, none⟩) (Nat.le_succ _) (.slice (some ⟨g1, 0, none⟩) 128 128)
          replace HR1 := Lib.hid (HR1.out.below HR1.out.lt kk)
          replace HX := Lib.hid (HX.out.below HX.out.lt kk)
          replace HP2 := Lib.hid (HP2.out.below kk)
          replace HP1 := Lib.hid (HP1.out.below kk)
          replace HB := Lib.hid (HB.out.trans (kk.mono HB.out.size))
          clear kk
          go_wp2_with fail
          refine HS.out.mono ?_
          rintro e w' ⟨rfl, rfl⟩
          go_upto_region 8 with (fail)
          clear HS c0 o0 o1 w0 w1 fo fw HO HW K1
          generalize (v4.setCell ⟨v3.heap.size, 0, none⟩ (.slice (some ⟨g1, 0, none⟩) 128 128)).setCell ⟨v3.heap.size + 1, 1, none⟩ (.slice (some ⟨g1, 0, none⟩) 128 128) = v5 at *
          generalize v3.heap.size = o9 at *
          have o0 := HO2.out.cellAt (i := 0) rfl
          have o1 := HO2.out.cellAt (i := 1) rfl
          have w0 := HW2.out.cellAt (i := 0) rfl
          have w1 := HW2.out.cellAt (i := 1) rfl
          clear o0 o1 w0 w1
          have o0 := HO2.out.cellAt (i := 0) rfl
          have o1 := HO2.out.cellAt (i := 1) rfl
          go_wp2_with fail
          refine (pick_bts HP1.out HP2.out (pick_first hs fs hp (fun q => hh q.1))).mono ?_
          rintro e v11 ⟨rfl, kk⟩
          replace HR1 := Lib.hid (HR1.out.below HR1.out.lt kk)
          replace HX := Lib.hid (HX.out.below HX.out.lt kk)
          replace HO2 := Lib.hid (HO2.out.below HO2.out.lt kk)
          replace HW2 := Lib.hid (HW2.out.below HW2.out.lt kk)
          replace HP2 := Lib.hid (HP2.out.below kk)
          replace HP1 := Lib.hid (HP1.out.below kk)
          replace HB := Lib.hid (HB.out.trans (kk.mono HB.out.size))
          clear kk
          clear o0 o1
          have hst := run_storeCells_new (P := Try.prog) v11 27 #[(.int .u64 0), (.int .u32 0), (.int .u32 0), (.int .u32 0), (.int .u32 0), (.int .u32 0), (.int .u32 0), (.int .u32 0), (.int .u32 0), (.int .u32 0), (.int .u64 0), (.int .u64 0), (.int .u64 0), (.int .u64 0), (.int .u64 0), (.int .u64 0), (.int .u64 0), (.int .u64 0)] (scells s).toArray (size_scells _) (by simp [length_scells]) (one_scells _)
          have hlc := length_scells s
          go_upto_region 9 with (fail)
          clear hst hlc
          have HX0 := Lib.hid (alloc_rowV v11 27 (scells s))
          have kk := (Below.refl v11.heap.size v11).alloc (Nat.le_refl _) (.cells (scells s).toArray 27)
          replace HR1 := Lib.hid (HR1.out.below HR1.out.lt kk)
          replace HX := Lib.hid (HX.out.below HX.out.lt kk)
          replace HO2 := Lib.hid (HO2.out.below HO2.out.lt kk)
          replace HW2 := Lib.hid (HW2.out.below HW2.out.lt kk)
          replace HP2 := Lib.hid (HP2.out.below kk)
          replace HP1 := Lib.hid (HP1.out.below kk)
          replace HB := Lib.hid (HB.out.trans (kk.mono HB.out.size))
          clear kk
          generalize v11.alloc (.cells (scells s).toArray 27) = v12 at *
          generalize v11.heap.size = y0 at *
          have o0 := HW2.out.cellAt (i := 0) rfl
          have o1 := HW2.out.cellAt (i := 1) rfl
          go_wp2_with fail
          refine (pick_bts HP2.out HP1.out (pick_none (fun q => hh q.1) (fun q => by have := (counts_page hs fs 1).1 q; omega))).mono ?_
          rintro e v13 ⟨rfl, kk⟩
          replace HR1 := Lib.hid (HR1.out.below HR1.out.lt kk)
          replace HX := Lib.hid (HX.out.below HX.out.lt kk)
          replace HO2 := Lib.hid (HO2.out.below HO2.out.lt kk)
          replace HW2 := Lib.hid (HW2.out.below HW2.out.lt kk)
          replace HX0 := Lib.hid (HX0.out.below HX0.out.lt kk)
          replace HP2 := Lib.hid (HP2.out.below kk)
          replace HP1 := Lib.hid (HP1.out.below kk)
          replace HB := Lib.hid (HB.out.trans (kk.mono HB.out.size))
          clear kk
          clear o0 o1
          have hst := run_storeCells_new (P := Try.prog) v13 27 #[(.int .u64 0), (.int .u32 0), (.int .u32 0), (.int .u32 0), (.int .u32 0), (.int .u32 0), (.int .u32 0), (.int .u32 0), (.int .u32 0), (.int .u32 0), (.int .u64 0), (.int .u64 0), (.int .u64 0), (.int .u64 0), (.int .u64 0), (.int .u64 0), (.int .u64 0), (.int .u64 0)] (scells zero18).toArray (size_scells _) (by simp [length_scells]) (one_scells _)
          have hlc := length_scells zero18
          go_upto_region 10 with (fail)
          clear hst hlc
          have HX1 := Lib.hid (alloc_rowV v13 27 (scells zero18))
          have kk := (Below.refl v13.heap.size v13).alloc (Nat.le_refl _) (.cells (scells zero18).toArray 27)
          replace HR1 := Lib.hid (HR1.out.below HR1.out.lt kk)
          replace HX := Lib.hid (HX.out.below HX.out.lt kk)
          replace HO2 := Lib.hid (HO2.out.below HO2.out.lt kk)
          replace HW2 := Lib.hid (HW2.out.below HW2.out.lt kk)
          replace HX0 := Lib.hid (HX0.out.below HX0.out.lt kk)
          replace HP2 := Lib.hid (HP2.out.below kk)
          replace HP1 := Lib.hid (HP1.out.below kk)
          replace HB := Lib.hid (HB.out.trans (kk.mono HB.out.size))
          clear kk
          generalize v13.alloc (.cells (scells zero18).toArray 27) = v14 at *
          generalize v13.heap.size = y1 at *
          go_wp2_with fail
          refine (pick_bts HP1.out HP1.out (pick_first hs fs hp (fun q => by have := (counts_page hs fs 1).1 q; omega))).mono ?_
          rintro e v15 ⟨rfl, kk⟩
          replace HR1 := Lib.hid (HR1.out.below HR1.out.lt kk)
          replace HX := Lib.hid (HX.out.below HX.out.lt kk)
          replace HO2 := Lib.hid (HO2.out.below HO2.out.lt kk)
          replace HW2 := Lib.hid (HW2.out.below HW2.out.lt kk)
          replace HX0 := Lib.hid (HX0.out.below HX0.out.lt kk)
          replace HX1 := Lib.hid (HX1.out.below HX1.out.lt kk)
          replace HP2 := Lib.hid (HP2.out.below kk)
          replace HP1 := Lib.hid (HP1.out.below kk)
          replace HB := Lib.hid (HB.out.trans (kk.mono HB.out.size))
          clear kk
          have hst := run_storeCells_new (P := Try.prog) v15 27 #[(.int .u64 0), (.int .u32 0), (.int .u32 0), (.int .u32 0), (.int .u32 0), (.int .u32 0), (.int .u32 0), (.int .u32 0), (.int .u32 0), (.int .u32 0), (.int .u64 0), (.int .u64 0), (.int .u64 0), (.int .u64 0), (.int .u64 0), (.int .u64 0), (.int .u64 0), (.int .u64 0)] (scells s).toArray (size_scells _) (by simp [length_scells]) (one_scells _)
          have hlc := length_scells s
          go_upto_region 11 with (fail)
          clear hst hlc
          have HX2 := Lib.hid (alloc_rowV v15 27 (scells s))
          have kk := (Below.refl v15.heap.size v15).alloc (Nat.le_refl _) (.cells (scells s).toArray 27)
          replace HR1 := Lib.hid (HR1.out.below HR1.out.lt kk)
          replace HX := Lib.hid (HX.out.below HX.out.lt kk)
          replace HO2 := Lib.hid (HO2.out.below HO2.out.lt kk)
          replace HW2 := Lib.hid (HW2.out.below HW2.out.lt kk)
          replace HX0 := Lib.hid (HX0.out.below HX0.out.lt kk)
          replace HX1 := Lib.hid (HX1.out.below HX1.out.lt kk)
          replace HP2 := Lib.hid (HP2.out.below kk)
          replace HP1 := Lib.hid (HP1.out.below kk)
          replace HB := Lib.hid (HB.out.trans (kk.mono HB.out.size))
          clear kk
          generalize v15.alloc (.cells (scells s).toArray 27) = v16 at *
          generalize v15.heap.size = y2 at *
          have q1 : (s == s) = true := by simp
          have q2 : (zero18 == zero18) = true := by decide
          go_wp2_with (first | (refine wpList_load_row_g (by rfl) 27 (.tmp 12) rfl y0 rfl _ (scells s).toArray _ _ HX0.out Try.underlying27 rfl (size_scells _) ?_) | (refine wpList_load_row_g (by rfl) 27 (.tmp 2) rfl w.heap.size rfl _ (scells s).toArray _ _ HR1.out Try.underlying27 rfl (size_scells _) ?_) | (refine wpList_eql_sup (by rfl) (.tmp 87) (.tmp 88) _ rfl s s hs hs rfl rfl ?_; rw [q1]) | (refine wpList_load_row_g (by rfl) 27 (.tmp 15) rfl y1 rfl _ (scells zero18).toArray _ _ HX1.out Try.underlying27 rfl (size_scells _) ?_) | (refine wpList_build_g (by rfl) 27 #[] rfl (scells zero18).toArray ?_ ?_; (simp [Act.eval]); exact built_zero) | (refine wpList_eql_sup (by rfl) (.tmp 101) (.tmp 102) _ rfl zero18 zero18 ok_zero ok_zero rfl rfl ?_; rw [q2]) | (refine wpList_load_row_g (by rfl) 27 (.tmp 18) rfl y2 rfl _ (scells s).toArray _ _ HX2.out Try.underlying27 rfl (size_scells _) ?_) | (refine wpList_eql_sup (by rfl) (.tmp 114) (.tmp 115) _ rfl s s hs hs rfl rfl ?_; rw [q1]))
          refine (HA.out _ HB.out).mono ?_
          rintro e wl ⟨rfl, kl⟩
          go_wp2_with fail
          go_ret
          exact ⟨rfl, kl⟩
        · skip
          have HS := Lib.hid (show Calls Try.prog 21 #[.int .u64 (nth s 0 : Int)] v4 fun e w' => e = .returned (.int .i64 1) ∧ v4 = w' from (slot_any (nth s 0) hg v4).mono fun e w' ⟨h1, h2⟩ => ⟨by rw [h1, hp]; rfl, h2⟩)
          have HO2 := Lib.hid (show RowV ((v4.setCell ⟨v3.heap.size, 1, none⟩ (.slice (some ⟨g1, 0, none⟩) 128 128)).setCell ⟨v3.heap.size + 1, 0, none⟩ (.slice (some ⟨g1, 0, none⟩) 128 128)) v3.heap.size 46 ([.slice a len cap, .slice (some ⟨g1, 0, none⟩) 128 128]) from (HO.out.set 1 (.slice (some ⟨g1, 0, none⟩) 128 128)).other (by omega))
          have HW2 := Lib.hid (show RowV ((v4.setCell ⟨v3.heap.size, 1, none⟩ (.slice (some ⟨g1, 0, none⟩) 128 128)).setCell ⟨v3.heap.size + 1, 0, none⟩ (.slice (some ⟨g1, 0, none⟩) 128 128)) (v3.heap.size + 1) 46 ([.slice (some ⟨g1, 0, none⟩) 128 128, .slice a len cap]) from (HW.out.other (by omega)).set 0 (.slice (some ⟨g1, 0, none⟩) 128 128))
          have kk := (K1.out.setCell (p := ⟨v3.heap.size, 1, none⟩) (Nat.le_refl _) (.slice (some ⟨g1, 0, none⟩) 128 128)).setCell (p := ⟨v3.heap.size + 1, 0, none⟩) (Nat.le_succ _) (.slice (some ⟨g1, 0, none⟩) 128 128)
          replace HR1 := Lib.hid (HR1.out.below HR1.out.lt kk)
          replace HX := Lib.hid (HX.out.below HX.out.lt kk)
          replace HP2 := Lib.hid (HP2.out.below kk)
          replace HP1 := Lib.hid (HP1.out.below kk)
          replace HB := Lib.hid (HB.out.trans (kk.mono HB.out.size))
          clear kk
          go_wp2_with fail
          refine HS.out.mono ?_
          rintro e w' ⟨rfl, rfl⟩
          go_upto_region 8 with (fail)
          clear HS c0 o0 o1 w0 w1 fo fw HO HW K1
          generalize (v4.setCell ⟨v3.heap.size, 1, none⟩ (.slice (some ⟨g1, 0, none⟩) 128 128)).setCell ⟨v3.heap.size + 1, 0, none⟩ (.slice (some ⟨g1, 0, none⟩) 128 128) = v5 at *
          generalize v3.heap.size = o9 at *
          have o0 := HO2.out.cellAt (i := 0) rfl
          have o1 := HO2.out.cellAt (i := 1) rfl
          have w0 := HW2.out.cellAt (i := 0) rfl
          have w1 := HW2.out.cellAt (i := 1) rfl
          clear o0 o1 w0 w1
          have o0 := HO2.out.cellAt (i := 0) rfl
          have o1 := HO2.out.cellAt (i := 1) rfl
          go_wp2_with fail
          refine (pick_bts HP2.out HP1.out (pick_second hs fs hp (fun q => hh q.1))).mono ?_
          rintro e v11 ⟨rfl, kk⟩
          replace HR1 := Lib.hid (HR1.out.below HR1.out.lt kk)
          replace HX := Lib.hid (HX.out.below HX.out.lt kk)
          replace HO2 := Lib.hid (HO2.out.below HO2.out.lt kk)
          replace HW2 := Lib.hid (HW2.out.below HW2.out.lt kk)
          replace HP2 := Lib.hid (HP2.out.below kk)
          replace HP1 := Lib.hid (HP1.out.below kk)
          replace HB := Lib.hid (HB.out.trans (kk.mono HB.out.size))
          clear kk
          clear o0 o1
          have hst := run_storeCells_new (P := Try.prog) v11 27 #[(.int .u64 0), (.int .u32 0), (.int .u32 0), (.int .u32 0), (.int .u32 0), (.int .u32 0), (.int .u32 0), (.int .u32 0), (.int .u32 0), (.int .u32 0), (.int .u64 0), (.int .u64 0), (.int .u64 0), (.int .u64 0), (.int .u64 0), (.int .u64 0), (.int .u64 0), (.int .u64 0)] (scells s).toArray (size_scells _) (by simp [length_scells]) (one_scells _)
          have hlc := length_scells s
          go_upto_region 9 with (fail)
          clear hst hlc
          have HX0 := Lib.hid (alloc_rowV v11 27 (scells s))
          have kk := (Below.refl v11.heap.size v11).alloc (Nat.le_refl _) (.cells (scells s).toArray 27)
          replace HR1 := Lib.hid (HR1.out.below HR1.out.lt kk)
          replace HX := Lib.hid (HX.out.below HX.out.lt kk)
          replace HO2 := Lib.hid (HO2.out.below HO2.out.lt kk)
          replace HW2 := Lib.hid (HW2.out.below HW2.out.lt kk)
          replace HP2 := Lib.hid (HP2.out.below kk)
          replace HP1 := Lib.hid (HP1.out.below kk)
          replace HB := Lib.hid (HB.out.trans (kk.mono HB.out.size))
          clear kk
          generalize v11.alloc (.cells (scells s).toArray 27) = v12 at *
          generalize v11.heap.size = y0 at *
          have o0 := HW2.out.cellAt (i := 0) rfl
          have o1 := HW2.out.cellAt (i := 1) rfl
          go_wp2_with fail
          refine (pick_bts HP1.out HP2.out (pick_none (fun q => by have := (counts_page hs fs 0).1 q; omega) (fun q => hh q.1))).mono ?_
          rintro e v13 ⟨rfl, kk⟩
          replace HR1 := Lib.hid (HR1.out.below HR1.out.lt kk)
          replace HX := Lib.hid (HX.out.below HX.out.lt kk)
          replace HO2 := Lib.hid (HO2.out.below HO2.out.lt kk)
          replace HW2 := Lib.hid (HW2.out.below HW2.out.lt kk)
          replace HX0 := Lib.hid (HX0.out.below HX0.out.lt kk)
          replace HP2 := Lib.hid (HP2.out.below kk)
          replace HP1 := Lib.hid (HP1.out.below kk)
          replace HB := Lib.hid (HB.out.trans (kk.mono HB.out.size))
          clear kk
          clear o0 o1
          have hst := run_storeCells_new (P := Try.prog) v13 27 #[(.int .u64 0), (.int .u32 0), (.int .u32 0), (.int .u32 0), (.int .u32 0), (.int .u32 0), (.int .u32 0), (.int .u32 0), (.int .u32 0), (.int .u32 0), (.int .u64 0), (.int .u64 0), (.int .u64 0), (.int .u64 0), (.int .u64 0), (.int .u64 0), (.int .u64 0), (.int .u64 0)] (scells zero18).toArray (size_scells _) (by simp [length_scells]) (one_scells _)
          have hlc := length_scells zero18
          go_upto_region 10 with (fail)
          clear hst hlc
          have HX1 := Lib.hid (alloc_rowV v13 27 (scells zero18))
          have kk := (Below.refl v13.heap.size v13).alloc (Nat.le_refl _) (.cells (scells zero18).toArray 27)
          replace HR1 := Lib.hid (HR1.out.below HR1.out.lt kk)
          replace HX := Lib.hid (HX.out.below HX.out.lt kk)
          replace HO2 := Lib.hid (HO2.out.below HO2.out.lt kk)
          replace HW2 := Lib.hid (HW2.out.below HW2.out.lt kk)
          replace HX0 := Lib.hid (HX0.out.below HX0.out.lt kk)
          replace HP2 := Lib.hid (HP2.out.below kk)
          replace HP1 := Lib.hid (HP1.out.below kk)
          replace HB := Lib.hid (HB.out.trans (kk.mono HB.out.size))
          clear kk
          generalize v13.alloc (.cells (scells zero18).toArray 27) = v14 at *
          generalize v13.heap.size = y1 at *
          go_wp2_with fail
          refine (pick_bts HP1.out HP1.out (pick_second hs fs hp (fun q => by have := (counts_page hs fs 0).1 q; omega))).mono ?_
          rintro e v15 ⟨rfl, kk⟩
          replace HR1 := Lib.hid (HR1.out.below HR1.out.lt kk)
          replace HX := Lib.hid (HX.out.below HX.out.lt kk)
          replace HO2 := Lib.hid (HO2.out.below HO2.out.lt kk)
          replace HW2 := Lib.hid (HW2.out.below HW2.out.lt kk)
          replace HX0 := Lib.hid (HX0.out.below HX0.out.lt kk)
          replace HX1 := Lib.hid (HX1.out.below HX1.out.lt kk)
          replace HP2 := Lib.hid (HP2.out.below kk)
          replace HP1 := Lib.hid (HP1.out.below kk)
          replace HB := Lib.hid (HB.out.trans (kk.mono HB.out.size))
          clear kk
          have hst := run_storeCells_new (P := Try.prog) v15 27 #[(.int .u64 0), (.int .u32 0), (.int .u32 0), (.int .u32 0), (.int .u32 0), (.int .u32 0), (.int .u32 0), (.int .u32 0), (.int .u32 0), (.int .u32 0), (.int .u64 0), (.int .u64 0), (.int .u64 0), (.int .u64 0), (.int .u64 0), (.int .u64 0), (.int .u64 0), (.int .u64 0)] (scells s).toArray (size_scells _) (by simp [length_scells]) (one_scells _)
          have hlc := length_scells s
          go_upto_region 11 with (fail)
          clear hst hlc
          have HX2 := Lib.hid (alloc_rowV v15 27 (scells s))
          have kk := (Below.refl v15.heap.size v15).alloc (Nat.le_refl _) (.cells (scells s).toArray 27)
          replace HR1 := Lib.hid (HR1.out.below HR1.out.lt kk)
          replace HX := Lib.hid (HX.out.below HX.out.lt kk)
          replace HO2 := Lib.hid (HO2.out.below HO2.out.lt kk)
          replace HW2 := Lib.hid (HW2.out.below HW2.out.lt kk)
          replace HX0 := Lib.hid (HX0.out.below HX0.out.lt kk)
          replace HX1 := Lib.hid (HX1.out.below HX1.out.lt kk)
          replace HP2 := Lib.hid (HP2.out.below kk)
          replace HP1 := Lib.hid (HP1.out.below kk)
          replace HB := Lib.hid (HB.out.trans (kk.mono HB.out.size))
          clear kk
          generalize v15.alloc (.cells (scells s).toArray 27) = v16 at *
          generalize v15.heap.size = y2 at *
          have q1 : (s == s) = true := by simp
          have q2 : (zero18 == zero18) = true := by decide
          go_wp2_with (first | (refine wpList_load_row_g (by rfl) 27 (.tmp 12) rfl y0 rfl _ (scells s).toArray _ _ HX0.out Try.underlying27 rfl (size_scells _) ?_) | (refine wpList_load_row_g (by rfl) 27 (.tmp 2) rfl w.heap.size rfl _ (scells s).toArray _ _ HR1.out Try.underlying27 rfl (size_scells _) ?_) | (refine wpList_eql_sup (by rfl) (.tmp 87) (.tmp 88) _ rfl s s hs hs rfl rfl ?_; rw [q1]) | (refine wpList_load_row_g (by rfl) 27 (.tmp 15) rfl y1 rfl _ (scells zero18).toArray _ _ HX1.out Try.underlying27 rfl (size_scells _) ?_) | (refine wpList_build_g (by rfl) 27 #[] rfl (scells zero18).toArray ?_ ?_; (simp [Act.eval]); exact built_zero) | (refine wpList_eql_sup (by rfl) (.tmp 101) (.tmp 102) _ rfl zero18 zero18 ok_zero ok_zero rfl rfl ?_; rw [q2]) | (refine wpList_load_row_g (by rfl) 27 (.tmp 18) rfl y2 rfl _ (scells s).toArray _ _ HX2.out Try.underlying27 rfl (size_scells _) ?_) | (refine wpList_eql_sup (by rfl) (.tmp 114) (.tmp 115) _ rfl s s hs hs rfl rfl ?_; rw [q1]))
          refine (HA.out _ HB.out).mono ?_
          rintro e wl ⟨rfl, kl⟩
          go_wp2_with fail
          go_ret
          exact ⟨rfl, kl⟩
  · skip
    go_wp2_with (refine wpList_load_row rfl 27 (.tmp 2) rfl w.heap.size rfl _ (scells s).toArray _ _ HR1.out Try.underlying27 rfl (size_scells _) ?_)
    refine (encode_none s hs v0 fs).mono ?_
    rintro e v1 ⟨rfl, kk⟩
    replace HR1 := Lib.hid (HR1.out.below HR1.out.lt kk)
    replace HP2 := Lib.hid (HP2.out.below kk)
    replace HB := Lib.hid (HB.out.trans (kk.mono HB.out.size))
    clear kk
    go_wp2_with fail
    refine (decode_bts HP2.out).mono ?_
    rintro e v2 ⟨rfl, kk⟩
    replace HR1 := Lib.hid (HR1.out.below HR1.out.lt kk)
    replace HP2 := Lib.hid (HP2.out.below kk)
    replace HB := Lib.hid (HB.out.trans (kk.mono HB.out.size))
    clear kk
    unfold sval
    have hst := run_storeCells_new (P := Try.prog) v2 27 #[(.int .u64 0), (.int .u32 0), (.int .u32 0), (.int .u32 0), (.int .u32 0), (.int .u32 0), (.int .u32 0), (.int .u32 0), (.int .u32 0), (.int .u32 0), (.int .u64 0), (.int .u64 0), (.int .u64 0), (.int .u64 0), (.int .u64 0), (.int .u64 0), (.int .u64 0), (.int .u64 0)] (scells (dsup bs)).toArray (size_scells _) (by simp [length_scells]) (one_scells _)
    have hlc := length_scells (dsup bs)
    go_upto_region 3 with (fail)
    clear hst hlc
    have HX := Lib.hid (alloc_rowV v2 27 (scells (dsup bs)))
    have kk := (Below.refl v2.heap.size v2).alloc (Nat.le_refl _) (.cells (scells (dsup bs)).toArray 27)
    replace HR1 := Lib.hid (HR1.out.below HR1.out.lt kk)
    replace HP2 := Lib.hid (HP2.out.below kk)
    replace HB := Lib.hid (HB.out.trans (kk.mono HB.out.size))
    clear kk
    generalize v2.alloc (.cells (scells (dsup bs)).toArray 27) = v3 at *
    generalize v2.heap.size = x7 at *
    go_wp2_with fail
    refine (HA.out _ HB.out).mono ?_
    rintro e wl ⟨rfl, kl⟩
    go_wp2_with fail
    go_ret
    exact ⟨rfl, kl⟩
end Go.Proofs.Ytkhimoclikhlaaa.Su
