/- The walk of the statement SuperPages. -/
import Derived.Test.YtkhimoclikhlaaaSuP
import Derived.Test.YtkhimoclikhlaaaInv
namespace Go.Proofs.Ytkhimoclikhlaaa.Su
open Go.RowKit Go.Shelf Go.Proofs.Ytkhimoclikhlaaa.Oct Go.Proofs.Ytkhimoclikhlaaa.Sf
set_option linter.unusedVariables false

theorem two_at {w : World} {sl g len cap : Nat} {a : Option Addr} {T : TypeId} {ps bs : List UInt8} (h : RowV w sl T [.slice (some ⟨g, 0, none⟩) 128 128, .slice a len cap]) (h1 : Bts w (some ⟨g, 0, none⟩) 128 128 ps) (h2 : Bts w a len cap bs) (k : Nat) (hk : k < 2) :
    ∃ A n c qs, w.cell? ⟨sl, 0 + k, none⟩ = some (.slice A n c) ∧ Bts w A n c qs := by
  rcases (show k = 0 ∨ k = 1 by omega) with rfl | rfl
  · exact ⟨_, _, _, ps, by rw [Nat.zero_add]; exact h.cellAt (i := 0) rfl, h1⟩
  · exact ⟨_, _, _, bs, by rw [Nat.zero_add]; exact h.cellAt (i := 1) rfl, h2⟩
set_option maxRecDepth 100000 in
set_option maxHeartbeats 4000000 in
theorem pages_walk (zk : Int) (a : Option Addr) (len cap : Nat) (zs : List Int) (w : World) (hk : (Lit.int .u8 zk).wf = true) (hz : Oct.IsRow .u8 w a len cap zs) : Calls Try.prog 5 #[.int .u8 zk, .slice a len cap] w fun e w' => e = .returned (.bool true) ∧ Below w.heap.size w w' := by
  obtain ⟨kd, rfl⟩ := Oct.u8_of hk
  obtain ⟨bs, cb⟩ := Oct.came hz
  have hb : Bts w a len cap bs := ⟨cb.hlen, cb.told, cb.le, cb.hcap⟩
  clear hk hz cb
  have HA := Lib.hid (show ∀ w2 : World, Below w.heap.size w w2 → Calls Try.prog 10 #[] w2 fun e w' => e = .returned (.bool true) ∧ Below w.heap.size w w' from fun w2 k => (awake_any w2).mono fun e w' ⟨h1, h2⟩ => ⟨h1, k.trans (h2.mono k.size)⟩)
  by_cases hl : len ≤ 123
  · skip
    go_enter Try.func5, Try.ntmps5
    go_wp2_with fail
    refine (seal_any kd a len cap bs hb.len w hl hb.told).mono ?_
    rintro e v1 ⟨g1, rfl, F⟩
    have HB := Lib.hid F.below
    have HP1 := Lib.hid (Bts.page F.has (length_page kd bs (by rw [hb.len]; exact hl)))
    have HP2 := Lib.hid (hb.below F.below)
    clear F hb
    have R2 := alloc_rowV v1 28 [.slice (some ⟨g1, 0, none⟩) 128 128, .slice a len cap]
    have kk := (Below.refl v1.heap.size v1).alloc (Nat.le_refl _) (.cells #[.slice (some ⟨g1, 0, none⟩) 128 128, .slice a len cap] 28)
    change RowV (v1.alloc (.cells #[.slice (some ⟨g1, 0, none⟩) 128 128, .slice a len cap] 28)) _ _ _ at R2
    go_wp2_with fail
    replace HP1 := Lib.hid (HP1.out.below kk)
    replace HP2 := Lib.hid (HP2.out.below kk)
    replace HB := Lib.hid (HB.out.trans (kk.mono HB.out.size))
    have HSL := Lib.hid R2
    clear kk R2
    generalize v1.alloc (.cells #[.slice (some ⟨g1, 0, none⟩) 128 128, .slice a len cap] 28) = v2 at *
    generalize v1.heap.size = sl at *
    go_loopw [26] (fun i wr => ∃ k : Nat, k ≤ 2 ∧ i = .int .i64 (k : Int) ∧ Hid (Below v2.heap.size v2 wr)) (fun i _ => 2 - (intOf i).toNat)
    case atStart => exact ⟨0, by omega, rfl, Lib.hid (Below.refl _ _)⟩
    case round =>
      obtain ⟨k, hk, rfl, HBR⟩ := hrel
      by_cases hlt : k < 2
      · obtain ⟨A, n, c, ps, c0, hp⟩ := two_at HSL.out HP1.out HP2.out k hlt
        have c1 := (HBR.out.cell (p := ⟨sl, 0 + k, none⟩) HSL.out.lt).trans c0
        rw [Nat.zero_add] at c1
        have HPS := Lib.hid (hp.below HBR.out)
        have HB := HBR
        clear c0 hp HBR
        have hk0 : (0 : Int) ≤ (k : Int) := by omega
        have hki : (k : Int) < 2 := by omega
        by_cases hh : Holds ps
        · skip
          have HH := Lib.hid hh
          clear hh
          go_wp2_with fail
          have hdd : dsup ps = sIn ps ∧ derr ps = 0 := by unfold dsup derr; rw [if_pos HH.out, if_pos HH.out]; exact ⟨rfl, rfl⟩
          have HD := decode_bts HPS.out
          rw [hdd.1, hdd.2] at HD
          change Calls _ _ _ _ (fun e w' => e = .returned (.tuple #[.agg (scells (sIn ps)).toArray, .int .i64 0]) ∧ _) at HD
          refine (HD).mono ?_
          rintro e v1 ⟨rfl, kk⟩
          replace HPS := Lib.hid (HPS.out.below kk)
          replace HB := Lib.hid (HB.out.trans (kk.mono HB.out.size))
          clear kk
          have hst := run_storeCells_new (P := Try.prog) v1 27 #[(.int .u64 0), (.int .u32 0), (.int .u32 0), (.int .u32 0), (.int .u32 0), (.int .u32 0), (.int .u32 0), (.int .u32 0), (.int .u32 0), (.int .u32 0), (.int .u64 0), (.int .u64 0), (.int .u64 0), (.int .u64 0), (.int .u64 0), (.int .u64 0), (.int .u64 0), (.int .u64 0)] (scells (sIn ps)).toArray (size_scells _) (by simp [length_scells]) (one_scells _)
          have hlc := length_scells (sIn ps)
          go_upto_region 8 with (fail)
          clear hst hlc
          have HX := Lib.hid (alloc_rowV v1 27 (scells (sIn ps)))
          have kk := (Below.refl v1.heap.size v1).alloc (Nat.le_refl _) (.cells (scells (sIn ps)).toArray 27)
          replace HPS := Lib.hid (HPS.out.below kk)
          replace HB := Lib.hid (HB.out.trans (kk.mono HB.out.size))
          clear kk
          generalize v1.alloc (.cells (scells (sIn ps)).toArray 27) = v2 at *
          generalize v1.heap.size = x9 at *
          go_wp2_with (first | (refine wpList_load_row rfl 27 (.tmp 9) rfl x9 rfl _ (scells (sIn ps)).toArray _ _ HX.out Try.underlying27 rfl (size_scells _) ?_))
          refine (encode_bts (sIn ps) (ok_sIn ps) v2 HH.out.2.2.1).mono ?_
          rintro e v3 ⟨g2, rfl, P2, -, -, kk⟩
          replace HX := Lib.hid (HX.out.below HX.out.lt kk)
          replace HPS := Lib.hid (HPS.out.below kk)
          replace HB := Lib.hid (HB.out.trans (kk.mono HB.out.size))
          have HP3 := Lib.hid P2
          clear P2
          clear kk
          go_wp2_with fail
          refine (equal_len _ _ 128 n 128 c (supPage (sIn ps)) ps (length_supPage _) HPS.out.len v3 HP3.out.told HPS.out.told).mono ?_
          rintro e w' ⟨rfl, rfl⟩
          rw [show (supPage (sIn ps) == ps) = true from by rw [beq_iff_eq]; exact HH.out.2.2.2]
          go_wp2_with fail
          go_roundw
          case rel => exact ⟨k + 1, by omega, by go_num, HB⟩
          case measure => simp [intOf]; omega
        · skip
          have HH := Lib.hid hh
          clear hh
          go_wp2_with fail
          refine (decode_none HH.out HPS.out).mono ?_
          rintro e v1 ⟨rfl, kk⟩
          replace HPS := Lib.hid (HPS.out.below kk)
          replace HB := Lib.hid (HB.out.trans (kk.mono HB.out.size))
          clear kk
          have hst := run_storeCells_new (P := Try.prog) v1 27 #[(.int .u64 0), (.int .u32 0), (.int .u32 0), (.int .u32 0), (.int .u32 0), (.int .u32 0), (.int .u32 0), (.int .u32 0), (.int .u32 0), (.int .u32 0), (.int .u64 0), (.int .u64 0), (.int .u64 0), (.int .u64 0), (.int .u64 0), (.int .u64 0), (.int .u64 0), (.int .u64 0)] (scells zero18).toArray (size_scells _) (by simp [length_scells]) (one_scells _)
          have hlc := length_scells zero18
          go_upto_region 8 with (fail)
          clear hst hlc
          have HX := Lib.hid (alloc_rowV v1 27 (scells zero18))
          have kk := (Below.refl v1.heap.size v1).alloc (Nat.le_refl _) (.cells (scells zero18).toArray 27)
          replace HPS := Lib.hid (HPS.out.below kk)
          replace HB := Lib.hid (HB.out.trans (kk.mono HB.out.size))
          clear kk
          generalize v1.alloc (.cells (scells zero18).toArray 27) = v2 at *
          generalize v1.heap.size = x9 at *
          have q1 : (!(zero18 == zero18)) = false := by decide
          go_wp2_with (first | (refine wpList_load_row_g (by rfl) 27 (.tmp 9) rfl x9 rfl _ (scells zero18).toArray _ _ HX.out Try.underlying27 rfl (size_scells _) ?_) | (refine wpList_build_g (by rfl) 27 #[] rfl (scells zero18).toArray ?_ ?_; (simp [Act.eval]); exact built_zero) | (refine wpList_neq_sup (by rfl) (.tmp 40) (.tmp 41) _ rfl zero18 zero18 ok_zero ok_zero rfl rfl ?_; rw [q1]))
          go_roundw
          case rel => exact ⟨k + 1, by omega, by go_num, HB⟩
          case measure => simp [intOf]; omega
      · obtain rfl : k = 2 := by omega
        have HB := Lib.hid (HB.out.trans (HBR.out.mono HB.out.size))
        clear HBR
        go_wp2_with fail
        refine (HA.out _ HB.out).mono ?_
        rintro e wl ⟨rfl, kl⟩
        go_wp2_with fail
        go_ret
        exact ⟨rfl, kl⟩
  · go_enter Try.func5, Try.ntmps5
    go_wp2_with fail
    refine (seal_long kd a len cap w (by omega) (Nat.le_trans hb.le hb.cap)).mono ?_
    rintro e w' ⟨rfl, rfl⟩
    go_wp2_with fail
    refine (HA.out _ (Below.refl _ _)).mono ?_
    rintro e wl ⟨rfl, kl⟩
    go_wp2_with fail
    go_ret
    exact ⟨rfl, kl⟩
end Go.Proofs.Ytkhimoclikhlaaa.Su
