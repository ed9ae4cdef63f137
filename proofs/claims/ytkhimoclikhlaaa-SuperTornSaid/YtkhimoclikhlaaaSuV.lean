/- The walk of the statement SuperTorn. -/
import Derived.Test.YtkhimoclikhlaaaSuT
import Derived.Test.YtkhimoclikhlaaaInv2
namespace Go.Proofs.Ytkhimoclikhlaaa.Su
open Go.RowKit Go.Shelf Go.Proofs.Ytkhimoclikhlaaa.Oct Go.Proofs.Ytkhimoclikhlaaa.Sf
set_option linter.unusedVariables false

def ovr (g k : Nat) : Addr := if 128 = k then ⟨g, 0, none⟩ else ⟨g, k, none⟩
theorem ovr_told {w : World} {g : Nat} {ps : List UInt8} (h : Pg w g ps) (k : Nat) (hk : k ≤ 128) : Oct.Told w (some (ovr g k)) (ps.drop k) := by
  unfold ovr
  by_cases e : 128 = k
  · exact .inl (List.drop_of_length_le (by rw [h.len]; omega))
  · rw [if_neg e]
    have := h.has.cut k (128 - k)
    rw [List.take_of_length_le (by rw [List.length_drop, h.len]; exact Nat.le_refl _), Nat.zero_add] at this
    exact this.told
set_option maxRecDepth 100000 in
set_option maxHeartbeats 8000000 in
theorem torn_walk (s t : Sup) (w : World) (hs : Ok s) (ht : Ok t) : Calls Try.prog 9 #[sval s, sval t] w fun e w' => e = .returned (.bool true) ∧ Below w.heap.size w w' := by
  have HA := Lib.hid (show ∀ w2 : World, Below w.heap.size w w2 → Calls Try.prog 10 #[] w2 fun e w' => e = .returned (.bool true) ∧ Below w.heap.size w w' from fun w2 k => (awake_any w2).mono fun e w' ⟨h1, h2⟩ => ⟨h1, k.trans (h2.mono k.size)⟩)
  have h0 := alloc_rowV w 27 (scells s)
  have k0 := (Below.refl w.heap.size w).alloc (Nat.le_refl _) (.cells (scells s).toArray 27)
  have s0 : (w.alloc (.cells (scells s).toArray 27)).heap.size = w.heap.size + 1 := by simp
  have h1 := alloc_rowV (w.alloc (.cells (scells s).toArray 27)) 27 (scells t)
  have k1 := (Below.refl (w.alloc (.cells (scells s).toArray 27)).heap.size (w.alloc (.cells (scells s).toArray 27))).alloc (Nat.le_refl _) (.cells (scells t).toArray 27)
  have HR1 := Lib.hid (h0.below h0.lt k1)
  have HB := Lib.hid (k0.trans (k1.mono k0.size))
  rw [s0] at h1
  have HR2 := Lib.hid h1
  clear h0 k0 h1 k1 s0
  unfold sval
  go_enter Try.func9, Try.ntmps9
  go_upto_region 1 with (fail)
  generalize (w.alloc (.cells (scells s).toArray 27)).alloc (.cells (scells t).toArray 27) = v0 at *
  have zz := HR2.out.lt
  by_cases fs : Fit s
  · skip
    go_wp2_with (first | (refine wpList_load_row rfl 27 (.tmp 2) rfl w.heap.size rfl _ (scells s).toArray _ _ HR1.out Try.underlying27 rfl (size_scells _) ?_) | (refine wpList_load_row rfl 27 (.tmp 3) rfl (w.heap.size + 1) rfl _ (scells t).toArray _ _ HR2.out Try.underlying27 rfl (size_scells _) ?_))
    refine (encode_bts s hs v0 fs).mono ?_
    rintro e v1 ⟨g1, rfl, P1, F1, G1, kk⟩
    replace HR1 := Lib.hid (HR1.out.below HR1.out.lt kk)
    replace HR2 := Lib.hid (HR2.out.below HR2.out.lt kk)
    replace HB := Lib.hid (HB.out.trans (kk.mono HB.out.size))
    have HG1 := Lib.hid (show Pg v1 g1 (supPage s) from pg_of P1 F1)
    clear P1 F1
    clear kk
    by_cases ft : Fit t
    · skip
      go_wp2_with (first | (refine wpList_load_row rfl 27 (.tmp 2) rfl w.heap.size rfl _ (scells s).toArray _ _ HR1.out Try.underlying27 rfl (size_scells _) ?_) | (refine wpList_load_row rfl 27 (.tmp 3) rfl (w.heap.size + 1) rfl _ (scells t).toArray _ _ HR2.out Try.underlying27 rfl (size_scells _) ?_))
      refine (encode_bts t ht v1 ft).mono ?_
      rintro e v2 ⟨g2, rfl, P2, F2, G2, kk⟩
      replace HR1 := Lib.hid (HR1.out.below HR1.out.lt kk)
      replace HR2 := Lib.hid (HR2.out.below HR2.out.lt kk)
      replace HG1 := Lib.hid (HG1.out.below kk)
      replace HB := Lib.hid (HB.out.trans (kk.mono HB.out.size))
      have HG2 := Lib.hid (show Pg v2 g2 (supPage t) from pg_of P2 F2)
      clear P2 F2
      clear kk
      have c2 := HR1.out.cellAt (scells_at s 0 (by decide))
      rw [scell_wide _ _ (.inl rfl)] at c2
      have c3 := HR2.out.cellAt (scells_at t 0 (by decide))
      rw [scell_wide _ _ (.inl rfl)] at c3
      by_cases hgn : nth s 0 = nth t 0
      · skip
        rw [hgn] at c2
        go_wp2_with fail
        refine (HA.out _ HB.out).mono ?_
        rintro e wl ⟨rfl, kl⟩
        go_wp2_with fail
        go_ret
        exact ⟨rfl, kl⟩
      · skip
        have hgb : ((nth s 0 : Int) == (nth t 0 : Int)) = false := by rw [beq_eq_false_iff_ne]; omega
        go_wp2_with fail
        clear c2 c3 hgb
        go_loopw [9] (fun i wr => ∃ k : Nat, k ≤ 129 ∧ i = .int .i64 (k : Int) ∧ Hid (RowV wr w.heap.size 27 (scells s)) ∧ Hid (RowV wr (w.heap.size + 1) 27 (scells t)) ∧ Hid (Pg wr g1 (supPage s)) ∧ Hid (Pg wr g2 (supPage t)) ∧ Hid (Below w.heap.size w wr)) (fun i _ => 129 - (intOf i).toNat)
        case atStart => exact ⟨0, by omega, rfl, HR1, HR2, HG1, HG2, HB⟩
        case round =>
          obtain ⟨k, hk, rfl, HR1', HR2', HG1', HG2', HB'⟩ := hrel
          clear HR1 HR2 HG1 HG2 HB
          have HR1 := HR1'
          have HR2 := HR2'
          have HG1 := HG1'
          have HG2 := HG2'
          have HB := HB'
          clear HR1' HR2' HG1' HG2' HB'
          by_cases hlt : k ≤ 128
          · skip
            have hki : (k : Int) ≤ 128 := by omega
            have hk0 : (0 : Int) ≤ (k : Int) := by omega
            go_upto_region 10 with (fail)
            refine Inv2.wp_region_inv (fun b a wy => ∃ z10 z49 z50 z51 z52 z53 z54 z55 z56, a = ⟨(List.toArray (Value.agg (scells s).toArray :: Value.agg (scells t).toArray :: Value.pointer (some { block := w.heap.size, off := 0 }) :: Value.pointer (some { block := w.heap.size + 1, off := 0 }) :: u4 :: Value.slice (some { block := g1, off := 0 }) 128 128 :: Value.int IntKind.i64 0 :: Value.slice (some { block := g2, off := 0 }) 128 128 :: Value.int IntKind.i64 0 :: Value.int IntKind.i64 ↑k :: z10 :: u11 :: u12 :: Value.tuple #[Value.slice (some { block := g1, off := 0 }) 128 128, Value.int IntKind.i64 0] :: Value.agg (scells s).toArray :: Value.tuple #[Value.slice (some { block := g1, off := 0 }) 128 128, Value.int IntKind.i64 0] :: Value.slice (some { block := g1, off := 0 }) 128 128 :: Value.int IntKind.i64 0 :: Value.tuple #[Value.slice (some { block := g2, off := 0 }) 128 128, Value.int IntKind.i64 0] :: Value.agg (scells t).toArray :: Value.tuple #[Value.slice (some { block := g2, off := 0 }) 128 128, Value.int IntKind.i64 0] :: Value.slice (some { block := g2, off := 0 }) 128 128 :: Value.int IntKind.i64 0 :: Value.int IntKind.i64 0 :: Value.bool false :: Value.bool false :: Value.int IntKind.i64 0 :: Value.bool false :: Value.bool false :: Value.bool false :: Value.pointer (some { block := w.heap.size, off := 0 }) :: Value.int IntKind.u64 ↑(nth s 0) :: Value.pointer (some { block := w.heap.size + 1, off := 0 }) :: Value.int IntKind.u64 ↑(nth t 0) :: Value.bool false :: Value.bool false :: undef :: Value.slice (some { block := g1, off := 0 }) 128 128 :: Value.int IntKind.i64 128 :: Value.bool false :: Value.bool false :: Value.slice (some { block := g2, off := 0 }) 128 128 :: Value.int IntKind.i64 128 :: Value.bool false :: Value.bool false :: Value.int IntKind.i64 ↑k :: Value.bool true :: u47 :: u48 :: z49 :: z50 :: z51 :: z52 :: z53 :: z54 :: z55 :: z56 :: u57 :: u58 :: u59 :: u60 :: u61 :: u62 :: u63 :: u64 :: u65 :: u66 :: u67 :: u68 :: u69 :: u70 :: u71 :: u72 :: u73 :: u74 :: u75 :: u76 :: u77 :: u78 :: u79 :: u80 :: u81 :: u82 :: u83 :: u84 :: u85 :: u86 :: u87 :: u88 :: u89 :: u90 :: u91 :: undef :: [])), []⟩ ∧ Hid ((b 0 = true → z49 = Value.slice (some { block := g2, off := 0 }) 128 128) ∧ (b 1 = true → z50 = Value.int IntKind.i64 ↑k) ∧ (b 2 = true → z51 = .slice (some ⟨g2, 0, none⟩) k 128) ∧ (b 4 = true → z53 = Value.slice (some { block := g1, off := 0 }) 128 128) ∧ (b 5 = true → z54 = Value.int IntKind.i64 ↑k) ∧ (b 6 = true → z55 = .slice (some (ovr g1 k)) (128 - k) (128 - k))) ∧ Hid (Below wr.heap.size wr wy) ∧ Hid ((b 3 = true → b 7 = false → ∃ g c, z52 = .slice (some ⟨g, 0, none⟩) k c ∧ Spare wy g c ((supPage t).take k) ∧ wr.heap.size ≤ g) ∧ (b 7 = true → ∃ A c, z56 = .slice A 128 c ∧ Bts wy A 128 c (torn (supPage t) (supPage s) k)) ∧ (b 8 = true → b 7 = true ∧ z10 = z56))) (by kernel_rfl) (by kernel_rfl) ?startT ?stepsT ?doneT
            case startT =>
              intro b hb
              refine ⟨u10, u49, u50, u51, u52, u53, u54, u55, u56, rfl, Lib.hid ⟨?_, ?_, ?_, ?_, ?_, ?_⟩, Lib.hid ((show Still wr wr.drew from ⟨rfl, rfl, rfl, rfl⟩).below _), Lib.hid (⟨fun e => (by rw [hb _ (by decide)] at e; cases e), fun e => (by rw [hb _ (by decide)] at e; cases e), fun e => (by rw [hb _ (by decide)] at e; cases e)⟩)⟩
              all_goals (intro e; first | rfl | (rw [hb _ (by decide)] at e; cases e))
            case stepsT =>
              refine ⟨?_, ?_, ?_, ?_, ?_, ?_, ?_, ?_, ?_, trivial⟩
              · rintro b a wy hb hd ⟨z10, z49, z50, z51, z52, z53, z54, z55, z56, rfl, HV, HW, HX⟩ K hK
                obtain ⟨h0, h1, h2, h4, h5, h6⟩ := HV.out
                clear hd
                go_simp
                exact hK _ _ ⟨_, _, _, _, _, _, _, _, _, rfl, Lib.hid ⟨fun _ => rfl, h1, h2, h4, h5, h6⟩, HW, HX⟩
              · rintro b a wy hb hd ⟨z10, z49, z50, z51, z52, z53, z54, z55, z56, rfl, HV, HW, HX⟩ K hK
                obtain ⟨h0, h1, h2, h4, h5, h6⟩ := HV.out
                clear hd
                go_simp
                exact hK _ _ ⟨_, _, _, _, _, _, _, _, _, rfl, Lib.hid ⟨h0, fun _ => rfl, h2, h4, h5, h6⟩, HW, HX⟩
              · rintro b a wy hb hd ⟨z10, z49, z50, z51, z52, z53, z54, z55, z56, rfl, HV, HW, HX⟩ K hK
                obtain ⟨h0, h1, h2, h4, h5, h6⟩ := HV.out
                simp [Region.binds] at hd
                obtain rfl := h0 (by simp [hd])
                obtain rfl := h1 (by simp [hd])
                clear hd
                go_simp
                exact hK _ _ ⟨_, _, _, _, _, _, _, _, _, rfl, Lib.hid ⟨h0, h1, fun _ => rfl, h4, h5, h6⟩, HW, HX⟩
              · rintro b a wy hb hd ⟨z10, z49, z50, z51, z52, z53, z54, z55, z56, rfl, HV, HW, HX⟩ K hK
                obtain ⟨h0, h1, h2, h4, h5, h6⟩ := HV.out
                simp [Region.binds] at hd
                obtain rfl := h2 (by simp [hd])
                clear hd
                obtain ⟨q3, q7, q8⟩ := HX.out
                go_simp
                go_at_call 11
                refine (again_spare (some ⟨g2, 0, none⟩) k 128 ((supPage t).take k) (by rw [List.length_take, HG2.out.len]; omega) _ (by unfold maxLen; omega) ((HG2.out.below HW.out).has.pre k).told).mono ?_
                rintro e wz ⟨g, c, rfl, hsp, hlo, kz⟩
                try go_simp
                exact hK _ _ ⟨_, _, _, _, _, _, _, _, _, rfl, Lib.hid ⟨h0, h1, h2, h4, h5, h6⟩, Lib.hid (HW.out.trans (kz.mono HW.out.size)), Lib.hid ⟨fun _ _ => ⟨g, c, rfl, hsp, Nat.le_trans HW.out.size hlo⟩, fun e => (let ⟨A, c, e1, e2⟩ := q7 e; ⟨A, c, e1, e2.below kz⟩), q8⟩⟩
              · rintro b a wy hb hd ⟨z10, z49, z50, z51, z52, z53, z54, z55, z56, rfl, HV, HW, HX⟩ K hK
                obtain ⟨h0, h1, h2, h4, h5, h6⟩ := HV.out
                clear hd
                go_simp
                exact hK _ _ ⟨_, _, _, _, _, _, _, _, _, rfl, Lib.hid ⟨h0, h1, h2, fun _ => rfl, h5, h6⟩, HW, HX⟩
              · rintro b a wy hb hd ⟨z10, z49, z50, z51, z52, z53, z54, z55, z56, rfl, HV, HW, HX⟩ K hK
                obtain ⟨h0, h1, h2, h4, h5, h6⟩ := HV.out
                clear hd
                go_simp
                exact hK _ _ ⟨_, _, _, _, _, _, _, _, _, rfl, Lib.hid ⟨h0, h1, h2, h4, fun _ => rfl, h6⟩, HW, HX⟩
              · rintro b a wy hb hd ⟨z10, z49, z50, z51, z52, z53, z54, z55, z56, rfl, HV, HW, HX⟩ K hK
                obtain ⟨h0, h1, h2, h4, h5, h6⟩ := HV.out
                simp [Region.binds] at hd
                obtain rfl := h4 (by simp [hd])
                obtain rfl := h5 (by simp [hd])
                clear hd
                go_simp
                exact hK _ _ ⟨_, _, _, _, _, _, _, _, _, rfl, Lib.hid ⟨h0, h1, h2, h4, h5, fun _ => (by unfold ovr; by_cases h : 128 = k; (rw [if_pos h, if_pos h]); (rw [if_neg h, if_neg h]))⟩, HW, HX⟩
              · rintro b a wy hb hd ⟨z10, z49, z50, z51, z52, z53, z54, z55, z56, rfl, HV, HW, HX⟩ K hK
                obtain ⟨h0, h1, h2, h4, h5, h6⟩ := HV.out
                simp [Region.binds] at hd
                have dd3 : b 3 = true := by simp [hd]
                obtain rfl := h6 (by simp [hd])
                clear hd
                obtain ⟨q3, q7, q8⟩ := HX.out
                obtain ⟨g, c, rfl, hsp, hlo⟩ := q3 dd3 hb
                obtain ⟨A, c', wz, hrun, hbt, kz⟩ := append_spare wy 28 wr.heap.size g c ((supPage t).take k) ((supPage s).drop k) hsp (ovr g1 k) (128 - k) (128 - k) k (by rw [List.length_take, HG2.out.len]; omega) (by rw [List.length_drop, HG1.out.len]) (ovr_told (HG1.out.below HW.out) k hlt) hlo HW.out.size (by omega)
                rw [show k + (128 - k) = 128 by omega] at hrun hbt
                refine if_wanted (by rfl) (wp_append_run (.tmp 52) (.tmp 55) 28 rfl _ _ rfl rfl _ _ hrun ?_)
                exact hK _ _ ⟨_, _, _, _, _, _, _, _, _, rfl, Lib.hid ⟨h0, h1, h2, h4, h5, h6⟩, Lib.hid (HW.out.trans kz), Lib.hid ⟨fun _ e => (by simp [Inv.mark] at e), fun _ => ⟨A, c', rfl, hbt⟩, fun e => (by have := (q8 e).1; rw [hb] at this; cases this)⟩⟩
              · rintro b a wy hb hd ⟨z10, z49, z50, z51, z52, z53, z54, z55, z56, rfl, HV, HW, HX⟩ K hK
                obtain ⟨h0, h1, h2, h4, h5, h6⟩ := HV.out
                simp [Region.binds] at hd
                have dd7 : b 7 = true := by simp [hd]
                clear hd
                obtain ⟨q3, q7, q8⟩ := HX.out
                go_simp
                exact hK _ _ ⟨_, _, _, _, _, _, _, _, _, rfl, Lib.hid ⟨h0, h1, h2, h4, h5, h6⟩, HW, Lib.hid ⟨q3, q7, fun _ => ⟨dd7, rfl⟩⟩⟩
            case doneT =>
              rintro b a wy hb ⟨z10, z49, z50, z51, z52, z53, z54, z55, z56, rfl, HV, HW, HX⟩
              obtain ⟨h0, h1, h2, h4, h5, h6⟩ := HV.out
              obtain rfl := h0 (hb 0)
              obtain rfl := h1 (hb 1)
              obtain rfl := h2 (hb 2)
              obtain rfl := h4 (hb 4)
              obtain rfl := h5 (hb 5)
              obtain rfl := h6 (hb 6)
              clear HV h0 h1 h2 h4 h5 h6
              obtain ⟨q3, q7, q8⟩ := HX.out
              obtain ⟨A, ct, rfl, hbt⟩ := q7 (hb 7)
              obtain ⟨-, rfl⟩ := q8 (hb 8)
              have HP := Lib.hid hbt
              clear hbt q3 q7 q8 HX hb
              have kk := HW.out
              clear HW
              replace HR1 := Lib.hid (HR1.out.below HR1.out.lt kk)
              replace HR2 := Lib.hid (HR2.out.below HR2.out.lt kk)
              replace HG1 := Lib.hid (HG1.out.below kk)
              replace HG2 := Lib.hid (HG2.out.below kk)
              replace HB := Lib.hid (HB.out.trans (kk.mono HB.out.size))
              clear kk
              by_cases hn : (torn (supPage t) (supPage s) k) = supPage t
              · skip
                have hd : dsup (torn (supPage t) (supPage s) k) = t ∧ derr (torn (supPage t) (supPage s) k) = 0 := by rw [hn]; exact dsup_page ht ft
                have HD := decode_bts HP.out
                rw [hd.1, hd.2] at HD
                change Calls _ _ _ _ (fun e w' => e = .returned (.tuple #[.agg (scells t).toArray, .int .i64 0]) ∧ _) at HD
                go_wp2_with fail
                refine (HD).mono ?_
                rintro e v21 ⟨rfl, kk⟩
                replace HR1 := Lib.hid (HR1.out.below HR1.out.lt kk)
                replace HR2 := Lib.hid (HR2.out.below HR2.out.lt kk)
                replace HG1 := Lib.hid (HG1.out.below kk)
                replace HG2 := Lib.hid (HG2.out.below kk)
                replace HP := Lib.hid (HP.out.below kk)
                replace HB := Lib.hid (HB.out.trans (kk.mono HB.out.size))
                clear kk
                have hst := run_storeCells_new (P := Try.prog) v21 27 #[(.int .u64 0), (.int .u32 0), (.int .u32 0), (.int .u32 0), (.int .u32 0), (.int .u32 0), (.int .u32 0), (.int .u32 0), (.int .u32 0), (.int .u32 0), (.int .u64 0), (.int .u64 0), (.int .u64 0), (.int .u64 0), (.int .u64 0), (.int .u64 0), (.int .u64 0), (.int .u64 0)] (scells t).toArray (size_scells _) (by simp [length_scells]) (one_scells _)
                have hlc := length_scells t
                go_upto_region 12 with (fail)
                clear hst hlc
                have HX := Lib.hid (alloc_rowV v21 27 (scells t))
                have kk := (Below.refl v21.heap.size v21).alloc (Nat.le_refl _) (.cells (scells t).toArray 27)
                replace HR1 := Lib.hid (HR1.out.below HR1.out.lt kk)
                replace HR2 := Lib.hid (HR2.out.below HR2.out.lt kk)
                replace HG1 := Lib.hid (HG1.out.below kk)
                replace HG2 := Lib.hid (HG2.out.below kk)
                replace HP := Lib.hid (HP.out.below kk)
                replace HB := Lib.hid (HB.out.trans (kk.mono HB.out.size))
                clear kk
                generalize v21.alloc (.cells (scells t).toArray 27) = v22 at *
                generalize v21.heap.size = x11 at *
                go_wp2_with fail
                refine (equal_len A (some ⟨g2, 0, none⟩) 128 128 ct 128 (torn (supPage t) (supPage s) k) (supPage t) HP.out.len HG2.out.len _ HP.out.told HG2.out.bts.told).mono ?_
                rintro e wq ⟨rfl, rfl⟩
                have q1 : (t == t) = true := by simp
                rw [show ((torn (supPage t) (supPage s) k) == supPage t) = true by rw [hn]; exact beq_self_eq_true _]
                go_wp2_with (first | (refine wpList_load_row_g (by rfl) 27 (.tmp 11) rfl x11 rfl _ (scells t).toArray _ _ HX.out Try.underlying27 rfl (size_scells _) ?_) | (refine wpList_load_row_g (by rfl) 27 (.tmp 3) rfl (w.heap.size + 1) rfl _ (scells t).toArray _ _ HR2.out Try.underlying27 rfl (size_scells _) ?_) | (refine wpList_neq_sup (by rfl) (.tmp 69) (.tmp 70) _ rfl t t ht ht rfl rfl ?_; rw [q1]))
                go_roundw
                case rel => exact ⟨k + 1, by omega, by go_num, HR1, HR2, HG1, HG2, HB⟩
                case measure => simp [intOf]; omega
              · skip
                by_cases ho : (torn (supPage t) (supPage s) k) = supPage s
                · skip
                  have hd : dsup (torn (supPage t) (supPage s) k) = s ∧ derr (torn (supPage t) (supPage s) k) = 0 := by rw [ho]; exact dsup_page hs fs
                  have HD := decode_bts HP.out
                  rw [hd.1, hd.2] at HD
                  change Calls _ _ _ _ (fun e w' => e = .returned (.tuple #[.agg (scells s).toArray, .int .i64 0]) ∧ _) at HD
                  go_wp2_with fail
                  refine (HD).mono ?_
                  rintro e v21 ⟨rfl, kk⟩
                  replace HR1 := Lib.hid (HR1.out.below HR1.out.lt kk)
                  replace HR2 := Lib.hid (HR2.out.below HR2.out.lt kk)
                  replace HG1 := Lib.hid (HG1.out.below kk)
                  replace HG2 := Lib.hid (HG2.out.below kk)
                  replace HP := Lib.hid (HP.out.below kk)
                  replace HB := Lib.hid (HB.out.trans (kk.mono HB.out.size))
                  clear kk
                  have hst := run_storeCells_new (P := Try.prog) v21 27 #[(.int .u64 0), (.int .u32 0), (.int .u32 0), (.int .u32 0), (.int .u32 0), (.int .u32 0), (.int .u32 0), (.int .u32 0), (.int .u32 0), (.int .u32 0), (.int .u64 0), (.int .u64 0), (.int .u64 0), (.int .u64 0), (.int .u64 0), (.int .u64 0), (.int .u64 0), (.int .u64 0)] (scells s).toArray (size_scells _) (by simp [length_scells]) (one_scells _)
                  have hlc := length_scells s
                  go_upto_region 12 with (fail)
                  clear hst hlc
                  have HX := Lib.hid (alloc_rowV v21 27 (scells s))
                  have kk := (Below.refl v21.heap.size v21).alloc (Nat.le_refl _) (.cells (scells s).toArray 27)
                  replace HR1 := Lib.hid (HR1.out.below HR1.out.lt kk)
                  replace HR2 := Lib.hid (HR2.out.below HR2.out.lt kk)
                  replace HG1 := Lib.hid (HG1.out.below kk)
                  replace HG2 := Lib.hid (HG2.out.below kk)
                  replace HP := Lib.hid (HP.out.below kk)
                  replace HB := Lib.hid (HB.out.trans (kk.mono HB.out.size))
                  clear kk
                  generalize v21.alloc (.cells (scells s).toArray 27) = v22 at *
                  generalize v21.heap.size = x11 at *
                  go_wp2_with fail
                  refine (equal_len A (some ⟨g2, 0, none⟩) 128 128 ct 128 (torn (supPage t) (supPage s) k) (supPage t) HP.out.len HG2.out.len _ HP.out.told HG2.out.bts.told).mono ?_
                  rintro e wq ⟨rfl, rfl⟩
                  have q1 : (s == s) = true := by simp
                  rw [show ((torn (supPage t) (supPage s) k) == supPage t) = false by rw [beq_eq_false_iff_ne]; exact hn]
                  go_wp2_with fail
                  refine (equal_len A (some ⟨g1, 0, none⟩) 128 128 ct 128 (torn (supPage t) (supPage s) k) (supPage s) HP.out.len HG1.out.len _ HP.out.told HG1.out.bts.told).mono ?_
                  rintro e wq ⟨rfl, rfl⟩
                  rw [show ((torn (supPage t) (supPage s) k) == supPage s) = true by rw [ho]; exact beq_self_eq_true _]
                  go_wp2_with (first | (refine wpList_load_row_g (by rfl) 27 (.tmp 11) rfl x11 rfl _ (scells s).toArray _ _ HX.out Try.underlying27 rfl (size_scells _) ?_) | (refine wpList_load_row_g (by rfl) 27 (.tmp 2) rfl w.heap.size rfl _ (scells s).toArray _ _ HR1.out Try.underlying27 rfl (size_scells _) ?_) | (refine wpList_neq_sup (by rfl) (.tmp 80) (.tmp 81) _ rfl s s hs hs rfl rfl ?_; rw [q1]))
                  go_roundw
                  case rel => exact ⟨k + 1, by omega, by go_num, HR1, HR2, HG1, HG2, HB⟩
                  case measure => simp [intOf]; omega
                · skip
                  have hd : dsup (torn (supPage t) (supPage s) k) = zero18 ∧ derr (torn (supPage t) (supPage s) k) = 60 := dsup_no (fun q => (torn_page hs ht hgn fs ft k hlt q).elim hn ho)
                  have HD := decode_bts HP.out
                  rw [hd.1, hd.2] at HD
                  change Calls _ _ _ _ (fun e w' => e = .returned (.tuple #[.agg (scells zero18).toArray, .int .i64 60]) ∧ _) at HD
                  go_wp2_with fail
                  refine (HD).mono ?_
                  rintro e v21 ⟨rfl, kk⟩
                  replace HR1 := Lib.hid (HR1.out.below HR1.out.lt kk)
                  replace HR2 := Lib.hid (HR2.out.below HR2.out.lt kk)
                  replace HG1 := Lib.hid (HG1.out.below kk)
                  replace HG2 := Lib.hid (HG2.out.below kk)
                  replace HP := Lib.hid (HP.out.below kk)
                  replace HB := Lib.hid (HB.out.trans (kk.mono HB.out.size))
                  clear kk
                  have hst := run_storeCells_new (P := Try.prog) v21 27 #[(.int .u64 0), (.int .u32 0), (.int .u32 0), (.int .u32 0), (.int .u32 0), (.int .u32 0), (.int .u32 0), (.int .u32 0), (.int .u32 0), (.int .u32 0), (.int .u64 0), (.int .u64 0), (.int .u64 0), (.int .u64 0), (.int .u64 0), (.int .u64 0), (.int .u64 0), (.int .u64 0)] (scells zero18).toArray (size_scells _) (by simp [length_scells]) (one_scells _)
                  have hlc := length_scells zero18
                  go_upto_region 12 with (fail)
                  clear hst hlc
                  have HX := Lib.hid (alloc_rowV v21 27 (scells zero18))
                  have kk := (Below.refl v21.heap.size v21).alloc (Nat.le_refl _) (.cells (scells zero18).toArray 27)
                  replace HR1 := Lib.hid (HR1.out.below HR1.out.lt kk)
                  replace HR2 := Lib.hid (HR2.out.below HR2.out.lt kk)
                  replace HG1 := Lib.hid (HG1.out.below kk)
                  replace HG2 := Lib.hid (HG2.out.below kk)
                  replace HP := Lib.hid (HP.out.below kk)
                  replace HB := Lib.hid (HB.out.trans (kk.mono HB.out.size))
                  clear kk
                  generalize v21.alloc (.cells (scells zero18).toArray 27) = v22 at *
                  generalize v21.heap.size = x11 at *
                  go_wp2_with fail
                  refine (equal_len A (some ⟨g2, 0, none⟩) 128 128 ct 128 (torn (supPage t) (supPage s) k) (supPage t) HP.out.len HG2.out.len _ HP.out.told HG2.out.bts.told).mono ?_
                  rintro e wq ⟨rfl, rfl⟩
                  have q1 : (zero18 == zero18) = true := by decide
                  rw [show ((torn (supPage t) (supPage s) k) == supPage t) = false by rw [beq_eq_false_iff_ne]; exact hn]
                  go_wp2_with fail
                  refine (equal_len A (some ⟨g1, 0, none⟩) 128 128 ct 128 (torn (supPage t) (supPage s) k) (supPage s) HP.out.len HG1.out.len _ HP.out.told HG1.out.bts.told).mono ?_
                  rintro e wq ⟨rfl, rfl⟩
                  rw [show ((torn (supPage t) (supPage s) k) == supPage s) = false by rw [beq_eq_false_iff_ne]; exact ho]
                  go_wp2_with (first | (refine wpList_load_row_g (by rfl) 27 (.tmp 11) rfl x11 rfl _ (scells zero18).toArray _ _ HX.out Try.underlying27 rfl (size_scells _) ?_) | (refine wpList_build_g (by rfl) 27 #[] rfl (scells zero18).toArray ?_ ?_; (simp [Act.eval]); exact built_zero) | (refine wpList_neq_sup (by rfl) (.tmp 88) (.tmp 89) _ rfl zero18 zero18 ok_zero ok_zero rfl rfl ?_; rw [q1]))
                  go_roundw
                  case rel => exact ⟨k + 1, by omega, by go_num, HR1, HR2, HG1, HG2, HB⟩
                  case measure => simp [intOf]; omega
          · skip
            obtain rfl : k = 129 := by omega
            go_wp2_with fail
            refine (HA.out _ HB.out).mono ?_
            rintro e wl ⟨rfl, kl⟩
            go_wp2_with fail
            go_ret
            exact ⟨rfl, kl⟩
    · skip
      go_wp2_with (first | (refine wpList_load_row rfl 27 (.tmp 2) rfl w.heap.size rfl _ (scells s).toArray _ _ HR1.out Try.underlying27 rfl (size_scells _) ?_) | (refine wpList_load_row rfl 27 (.tmp 3) rfl (w.heap.size + 1) rfl _ (scells t).toArray _ _ HR2.out Try.underlying27 rfl (size_scells _) ?_))
      refine (encode_none t ht v1 ft).mono ?_
      rintro e v2 ⟨rfl, kk⟩
      replace HR1 := Lib.hid (HR1.out.below HR1.out.lt kk)
      replace HR2 := Lib.hid (HR2.out.below HR2.out.lt kk)
      replace HG1 := Lib.hid (HG1.out.below kk)
      replace HB := Lib.hid (HB.out.trans (kk.mono HB.out.size))
      clear kk
      go_wp2_with fail
      refine (HA.out _ HB.out).mono ?_
      rintro e wl ⟨rfl, kl⟩
      go_wp2_with fail
      go_ret
      exact ⟨rfl, kl⟩
  · skip
    go_wp2_with (first | (refine wpList_load_row rfl 27 (.tmp 2) rfl w.heap.size rfl _ (scells s).toArray _ _ HR1.out Try.underlying27 rfl (size_scells _) ?_) | (refine wpList_load_row rfl 27 (.tmp 3) rfl (w.heap.size + 1) rfl _ (scells t).toArray _ _ HR2.out Try.underlying27 rfl (size_scells _) ?_))
    refine (encode_none s hs v0 fs).mono ?_
    rintro e v1 ⟨rfl, kk⟩
    replace HR1 := Lib.hid (HR1.out.below HR1.out.lt kk)
    replace HR2 := Lib.hid (HR2.out.below HR2.out.lt kk)
    replace HB := Lib.hid (HB.out.trans (kk.mono HB.out.size))
    clear kk
    by_cases ft : Fit t
    · skip
      go_wp2_with (first | (refine wpList_load_row rfl 27 (.tmp 2) rfl w.heap.size rfl _ (scells s).toArray _ _ HR1.out Try.underlying27 rfl (size_scells _) ?_) | (refine wpList_load_row rfl 27 (.tmp 3) rfl (w.heap.size + 1) rfl _ (scells t).toArray _ _ HR2.out Try.underlying27 rfl (size_scells _) ?_))
      refine (encode_bts t ht v1 ft).mono ?_
      rintro e v2 ⟨g2, rfl, P2, F2, G2, kk⟩
      replace HR1 := Lib.hid (HR1.out.below HR1.out.lt kk)
      replace HR2 := Lib.hid (HR2.out.below HR2.out.lt kk)
      replace HB := Lib.hid (HB.out.trans (kk.mono HB.out.size))
      clear P2 F2
      clear kk
      go_wp2_with fail
      refine (HA.out _ HB.out).mono ?_
      rintro e wl ⟨rfl, kl⟩
      go_wp2_with fail
      go_ret
      exact ⟨rfl, kl⟩
    · skip
      go_wp2_with (first | (refine wpList_load_row rfl 27 (.tmp 2) rfl w.heap.size rfl _ (scells s).toArray _ _ HR1.out Try.underlying27 rfl (size_scells _) ?_) | (refine wpList_load_row rfl 27 (.tmp 3) rfl (w.heap.size + 1) rfl _ (scells t).toArray _ _ HR2.out Try.underlying27 rfl (size_scells _) ?_))
      refine (encode_none t ht v1 ft).mono ?_
      rintro e v2 ⟨rfl, kk⟩
      replace HR1 := Lib.hid (HR1.out.below HR1.out.lt kk)
      replace HR2 := Lib.hid (HR2.out.below HR2.out.lt kk)
      replace HB := Lib.hid (HB.out.trans (kk.mono HB.out.size))
      clear kk
      go_wp2_with fail
      refine (HA.out _ HB.out).mono ?_
      rintro e wl ⟨rfl, kl⟩
      go_wp2_with fail
      go_ret
      exact ⟨rfl, kl⟩
end Go.Proofs.Ytkhimoclikhlaaa.Su
