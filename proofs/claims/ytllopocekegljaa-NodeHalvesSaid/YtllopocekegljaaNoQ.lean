/- Layer 12: the walk of the statement NodeHalves. (Written by bin/gen_noq.py.) -/
import Derived.Test.YtllopocekegljaaNoS
namespace Go.Proofs.Ytllopocekegljaa.No
open Go.RowKit Go.Proofs.Ytllopocekegljaa.Oct Go.Proofs.Ytllopocekegljaa.Lf Go.Proofs.Ytllopocekegljaa.Mv Go.Maps Go.ChangeMaps
set_option linter.unusedVariables false
set_option linter.unusedSimpArgs false

set_option maxRecDepth 100000 in
set_option maxHeartbeats 8000000 in
theorem halves_walk (haw : ∀ w : World, Calls Try.prog 9 #[] w fun e w' => e = .returned (.bool true) ∧ Below w.heap.size w w') (l : Bool) {w : World} {A B : Option Addr} {n c m d : Nat} {ks vs : List UInt64} (h : Nd w A n c B m d ks vs) (ax : UInt8) :
    Calls Try.prog 5 #[.agg #[.bool l, .slice A n c, .slice B m d], .int .u8 (ax.toNat : Int)] w fun e w' => e = .returned (.bool true) ∧ Below w.heap.size w w' := by
  have HB := Lib.hid (show Below w.heap.size w (w.alloc (.cells #[.bool l, .slice A n c, .slice B m d] 24)) from (Below.refl w.heap.size w).alloc (Nat.le_refl _) (.cells #[.bool l, .slice A n c, .slice B m d] 24))
  have XN := Lib.hid (show BoxD (w.alloc (.cells #[.bool l, .slice A n c, .slice B m d] 24)) w.heap.size (.agg #[.bool l, .slice A n c, .slice B m d]) from box_d w _ _ _)
  have NN := Lib.hid (h.below HB.out)
  have kl := h.kl
  have hz := node_zero
  have HAW := Lib.hid haw
  clear h haw
  go_enter Try.func5, Try.ntmps5
  go_wp2_with fail
  generalize w.alloc (.cells #[.bool l, .slice A n c, .slice B m d] 24) = w1 at *
  by_cases hok : Ok l ks vs
  · skip
    obtain rfl : m = n := by rw [← NN.out.vl, ← kl]; exact hok.2.1
    have h7 := hok.1
    have HK := Lib.hid hok
    refine (all_yes l NN.out hok).mono ?_
    rintro e w2 ⟨bm, rfl, MM, _, kz⟩
    replace XN := Lib.hid (XN.out.below XN.out.lt kz)
    replace NN := Lib.hid (NN.out.below kz)
    replace HB := Lib.hid (HB.out.trans (kz.mono HB.out.size))
    clear kz
    clear hok
    replace MM := Lib.hid MM
    go_wp2_with (first | (refine wpList_load_d rfl (.tmp 2) rfl w.heap.size _ rfl XN.out ?_))
    by_cases h2 : ks.length < 2
    · skip
      refine (split_any l NN.out (zn, zn, 122) (splitR_few HK.out h2).symm).mono ?_
      rintro e w3 ⟨u, v, rfl, Ou, Ov, kz⟩
      replace XN := Lib.hid (XN.out.below XN.out.lt kz)
      replace NN := Lib.hid (NN.out.below kz)
      replace MM := Lib.hid (MM.out.far kz)
      replace HB := Lib.hid (HB.out.trans (kz.mono HB.out.size))
      clear kz
      obtain ⟨Au, cu, Bu, du, eu, Nu⟩ := Ou.ex (n := 0) (m := 0) rfl rfl
      obtain ⟨Av, cv, Bv, dv, ev, Nv⟩ := Ov.ex (n := 0) (m := 0) rfl rfl
      replace eu : u = .agg #[.bool false, .slice Au 0 cu, .slice Bu 0 du] := eu
      replace ev : v = .agg #[.bool false, .slice Av 0 cv, .slice Bv 0 dv] := ev
      subst eu
      subst ev
      replace Ou := Lib.hid Ou
      replace Ov := Lib.hid Ov
      replace Nu := Lib.hid (show Nd w3 Au 0 cu Bu 0 du [] [] from Nu)
      replace Nv := Lib.hid (show Nd w3 Av 0 cv Bv 0 dv [] [] from Nv)
      have X2q := Lib.hid (box_d (w3.alloc (.cells #[.bool false, .slice none 0 0, .slice none 0 0] 24)) (.bool false) (.slice none 0 0) (.slice none 0 0))
      rw [show (w3.alloc (.cells #[.bool false, .slice none 0 0, .slice none 0 0] 24)).heap.size = w3.heap.size + 1 by simp] at X2q
      have qv := (Below.refl w3.heap.size w3).alloc (Nat.le_refl _) (.cells #[.bool false, .slice none 0 0, .slice none 0 0] 24)
      have Q2 := Lib.hid (qv.alloc qv.size (.cells #[.bool false, .slice none 0 0, .slice none 0 0] 24))
      clear qv
      go_upto_region 5 with (first | (refine wpList_store_d rfl (.tmp 7) (.tmp 31) rfl w3.heap.size _ _ zeroD _ _ _ rfl rfl ((box_d w3 (.bool false) (.slice none 0 0) (.slice none 0 0)).new (.cells #[.bool false, .slice none 0 0, .slice none 0 0] 24)) (Ou.out.at Q2.out) ?_; intro cs HC) | (refine wpList_store_d rfl (.tmp 8) (.tmp 32) rfl (w3.heap.size + 1) _ _ zeroD _ _ _ rfl rfl (X2q.out.other _ (by omega)) (Ov.out.at (Q2.out.trans (row_below cs (Nat.le_refl _)))) ?_; intro cs2 HC2))
      have kv := (Q2.out.trans (row_below cs (Nat.le_refl _))).trans (row_below cs2 (show w3.heap.size ≤ w3.heap.size + 1 by omega))
      have Xu := Lib.hid (HC.other cs2 (show w3.heap.size ≠ w3.heap.size + 1 by omega))
      have Xv := Lib.hid HC2
      clear HC HC2 X2q Q2
      obtain ⟨ru, hru⟩ : ∃ r, r = w3.heap.size := ⟨_, rfl⟩
      obtain ⟨rv, hrv⟩ : ∃ r, r = w3.heap.size + 1 := ⟨_, rfl⟩
      generalize (((w3.alloc (.cells #[.bool false, .slice none 0 0, .slice none 0 0] 24)).alloc (.cells #[.bool false, .slice none 0 0, .slice none 0 0] 24)).setRow w3.heap.size cs).setRow (w3.heap.size + 1) cs2 = w4 at *
      replace XN := Lib.hid (XN.out.below XN.out.lt kv)
      replace NN := Lib.hid (NN.out.below kv)
      replace MM := Lib.hid (MM.out.far kv)
      replace Ou := Lib.hid (Ou.out.at kv)
      replace Ov := Lib.hid (Ov.out.at kv)
      replace Nu := Lib.hid (Nu.out.below kv)
      replace Nv := Lib.hid (Nv.out.below kv)
      replace HB := Lib.hid (HB.out.trans (kv.mono HB.out.size))
      rw [← hrv, ← hru]
      rw [← hru] at Xu
      rw [← hrv] at Xv
      clear kv hru hrv
      have hm2 : (m : Int) < 2 := by omega
      clear h2
      have q1 := XN.out.of.cellAt (i := 1) rfl
      have u0 := Xu.out.of.cellAt (i := 0) rfl
      have u1 := Xu.out.of.cellAt (i := 1) rfl
      have u2 := Xu.out.of.cellAt (i := 2) rfl
      go_wp2_with fail
      have NZ := fun w => (show Nd w none 0 0 none 0 0 [] [] from ⟨rfl, rfl, Nat.le_refl _, Nat.zero_le _, Nat.le_refl _, Nat.zero_le _, .inl rfl, .inl rfl⟩)
      clear q1 u0 u1 u2
      refine (same_any false false Nu.out (NZ _)).mono ?_
      rintro e w5 ⟨rfl, kz⟩
      replace XN := Lib.hid (XN.out.below XN.out.lt kz)
      replace NN := Lib.hid (NN.out.below kz)
      replace MM := Lib.hid (MM.out.far kz)
      replace Ou := Lib.hid (Ou.out.at kz)
      replace Ov := Lib.hid (Ov.out.at kz)
      replace Nu := Lib.hid (Nu.out.below kz)
      replace Nv := Lib.hid (Nv.out.below kz)
      replace Xu := Lib.hid (Xu.out.below Xu.out.lt kz)
      replace Xv := Lib.hid (Xv.out.below Xv.out.lt kz)
      replace HB := Lib.hid (HB.out.trans (kz.mono HB.out.size))
      clear kz
      rw [decide_eq_true (show false = false ∧ ([] : List UInt64) = [] ∧ ([] : List UInt64) = [] from ⟨rfl, rfl, rfl⟩)]
      have u0 := Xv.out.of.cellAt (i := 0) rfl
      have u1 := Xv.out.of.cellAt (i := 1) rfl
      have u2 := Xv.out.of.cellAt (i := 2) rfl
      go_wp2_with fail
      clear u0 u1 u2
      refine (same_any false false Nv.out (NZ _)).mono ?_
      rintro e w6 ⟨rfl, kz⟩
      replace XN := Lib.hid (XN.out.below XN.out.lt kz)
      replace NN := Lib.hid (NN.out.below kz)
      replace MM := Lib.hid (MM.out.far kz)
      replace Ou := Lib.hid (Ou.out.at kz)
      replace Ov := Lib.hid (Ov.out.at kz)
      replace Nu := Lib.hid (Nu.out.below kz)
      replace Nv := Lib.hid (Nv.out.below kz)
      replace Xu := Lib.hid (Xu.out.below Xu.out.lt kz)
      replace Xv := Lib.hid (Xv.out.below Xv.out.lt kz)
      replace HB := Lib.hid (HB.out.trans (kz.mono HB.out.size))
      clear kz
      rw [decide_eq_true (show false = false ∧ ([] : List UInt64) = [] ∧ ([] : List UInt64) = [] from ⟨rfl, rfl, rfl⟩)]
      go_wp2_with fail
      refine (HAW.out _).mono ?_
      rintro e w7 ⟨rfl, kz⟩
      replace XN := Lib.hid (XN.out.below XN.out.lt kz)
      replace NN := Lib.hid (NN.out.below kz)
      replace MM := Lib.hid (MM.out.far kz)
      replace Ou := Lib.hid (Ou.out.at kz)
      replace Ov := Lib.hid (Ov.out.at kz)
      replace Nu := Lib.hid (Nu.out.below kz)
      replace Nv := Lib.hid (Nv.out.below kz)
      replace Xu := Lib.hid (Xu.out.below Xu.out.lt kz)
      replace Xv := Lib.hid (Xv.out.below Xv.out.lt kz)
      replace HB := Lib.hid (HB.out.trans (kz.mono HB.out.size))
      clear kz
      go_wp2_with fail
      go_ret
      exact ⟨rfl, HB.out⟩
    · skip
      obtain ⟨hf, hhf⟩ : ∃ q, q = (ks.length + 1) / 2 := ⟨_, rfl⟩
      have hh1 : 0 < hf := by omega
      have hh2 : hf < ks.length := by omega
      have ht := splitR_two HK.out h2
      rw [← hhf] at ht
      have vl := HK.out.2.1
      refine (split_any l NN.out _ ht.symm).mono ?_
      rintro e w3 ⟨u, v, rfl, Ou, Ov, kz⟩
      replace XN := Lib.hid (XN.out.below XN.out.lt kz)
      replace NN := Lib.hid (NN.out.below kz)
      replace MM := Lib.hid (MM.out.far kz)
      replace HB := Lib.hid (HB.out.trans (kz.mono HB.out.size))
      clear kz
      clear ht
      have hdi : 0 ≤ (hf : Int) - ((m - hf : Nat) : Int) ∧ (hf : Int) - ((m - hf : Nat) : Int) ≤ 1 := by omega
      clear hhf
      obtain ⟨Au, cu, Bu, du, rfl, Nu⟩ := Ou.ex (n := hf) (m := hf) (by rw [List.length_take]; omega) (by rw [List.length_take]; omega)
      obtain ⟨Av, cv, Bv, dv, rfl, Nv⟩ := Ov.ex (n := m - hf) (m := m - hf) (by rw [List.length_drop]; omega) (by rw [List.length_drop]; omega)
      replace Ou := Lib.hid Ou
      replace Ov := Lib.hid Ov
      replace Nu := Lib.hid Nu
      replace Nv := Lib.hid Nv
      have X2q := Lib.hid (box_d (w3.alloc (.cells #[.bool false, .slice none 0 0, .slice none 0 0] 24)) (.bool false) (.slice none 0 0) (.slice none 0 0))
      rw [show (w3.alloc (.cells #[.bool false, .slice none 0 0, .slice none 0 0] 24)).heap.size = w3.heap.size + 1 by simp] at X2q
      have qv := (Below.refl w3.heap.size w3).alloc (Nat.le_refl _) (.cells #[.bool false, .slice none 0 0, .slice none 0 0] 24)
      have Q2 := Lib.hid (qv.alloc qv.size (.cells #[.bool false, .slice none 0 0, .slice none 0 0] 24))
      clear qv
      go_upto_region 5 with (first | (refine wpList_store_d rfl (.tmp 7) (.tmp 31) rfl w3.heap.size _ _ zeroD _ _ _ rfl rfl ((box_d w3 (.bool false) (.slice none 0 0) (.slice none 0 0)).new (.cells #[.bool false, .slice none 0 0, .slice none 0 0] 24)) (Ou.out.at Q2.out) ?_; intro cs HC) | (refine wpList_store_d rfl (.tmp 8) (.tmp 32) rfl (w3.heap.size + 1) _ _ zeroD _ _ _ rfl rfl (X2q.out.other _ (by omega)) (Ov.out.at (Q2.out.trans (row_below cs (Nat.le_refl _)))) ?_; intro cs2 HC2))
      have kv := (Q2.out.trans (row_below cs (Nat.le_refl _))).trans (row_below cs2 (show w3.heap.size ≤ w3.heap.size + 1 by omega))
      have Xu := Lib.hid (HC.other cs2 (show w3.heap.size ≠ w3.heap.size + 1 by omega))
      have Xv := Lib.hid HC2
      clear HC HC2 X2q Q2
      obtain ⟨ru, hru⟩ : ∃ r, r = w3.heap.size := ⟨_, rfl⟩
      obtain ⟨rv, hrv⟩ : ∃ r, r = w3.heap.size + 1 := ⟨_, rfl⟩
      generalize (((w3.alloc (.cells #[.bool false, .slice none 0 0, .slice none 0 0] 24)).alloc (.cells #[.bool false, .slice none 0 0, .slice none 0 0] 24)).setRow w3.heap.size cs).setRow (w3.heap.size + 1) cs2 = w4 at *
      replace XN := Lib.hid (XN.out.below XN.out.lt kv)
      replace NN := Lib.hid (NN.out.below kv)
      replace MM := Lib.hid (MM.out.far kv)
      replace Ou := Lib.hid (Ou.out.at kv)
      replace Ov := Lib.hid (Ov.out.at kv)
      replace Nu := Lib.hid (Nu.out.below kv)
      replace Nv := Lib.hid (Nv.out.below kv)
      replace HB := Lib.hid (HB.out.trans (kv.mono HB.out.size))
      rw [← hrv, ← hru]
      rw [← hru] at Xu
      rw [← hrv] at Xv
      clear kv hru hrv
      clear Ou Ov
      have hm2 : ¬ (m : Int) < 2 := by omega
      have q1 := XN.out.of.cellAt (i := 1) rfl
      have u1 := Xu.out.of.cellAt (i := 1) rfl
      have u2 := Xv.out.of.cellAt (i := 1) rfl
      have hd1 : ¬ ((hf : Int) - ((m - hf : Nat) : Int) < 0) := by omega
      have hd2 : ¬ (1 < (hf : Int) - ((m - hf : Nat) : Int)) := by omega
      go_wp2_with (first | (refine wpList_load_d rfl (.tmp 7) rfl ru _ rfl Xu.out ?_) | (refine wpList_load_d rfl (.tmp 8) rfl rv _ rfl Xv.out ?_))
      clear q1 u1 u2 hd1 hd2 hdi
      refine (join_any l l Nu.out Nv.out _ (joinR_parts HK.out hh1 hh2).symm).mono ?_
      rintro e w5 ⟨q, rfl, Lq, kz⟩
      replace XN := Lib.hid (XN.out.below XN.out.lt kz)
      replace NN := Lib.hid (NN.out.below kz)
      replace MM := Lib.hid (MM.out.far kz)
      replace Nu := Lib.hid (Nu.out.below kz)
      replace Nv := Lib.hid (Nv.out.below kz)
      replace Xu := Lib.hid (Xu.out.below Xu.out.lt kz)
      replace Xv := Lib.hid (Xv.out.below Xv.out.lt kz)
      replace HB := Lib.hid (HB.out.trans (kz.mono HB.out.size))
      clear kz
      obtain ⟨gq, Aq, cq, Bq, dq, rfl, Rq, Nq⟩ := Lq.one kl NN.out.vl
      replace Rq := Lib.hid Rq
      replace Nq := Lib.hid Nq
      clear Lq
      clear Nu Nv Xu Xv
      go_upto_region 11 with (fail)
      refine Inv2.wp_region_inv (fun b a wy => ∃ (z : Nat → Value), a = ⟨(List.toArray (Value.agg #[Value.bool l, Value.slice A m c, Value.slice B m d] :: Value.int IntKind.u8 ↑ax.toNat :: Value.pointer (some ⟨w.heap.size, 0, none⟩) :: undef :: Value.bool false :: Value.map (some bm) :: Value.bool true :: Value.pointer (some ⟨ru, 0, none⟩) :: Value.pointer (some ⟨rv, 0, none⟩) :: Value.int IntKind.i64 0 :: Value.int IntKind.i64 ((hf : Int) - ↑(m - hf)) :: Value.slice (some ⟨gq, 0, none⟩) 1 1 :: Value.int IntKind.i64 0 :: undef :: undef :: undef :: undef :: undef :: undef :: undef :: Value.tuple #[Value.map (some bm), Value.bool true] :: Value.agg #[Value.bool l, Value.slice A m c, Value.slice B m d] :: Value.tuple #[Value.map (some bm), Value.bool true] :: Value.map (some bm) :: Value.bool true :: Value.bool true :: Value.bool false :: undef :: Value.tuple #[Value.agg #[Value.bool l, Value.slice Au hf cu, Value.slice Bu hf du], Value.agg #[Value.bool l, Value.slice Av (m - hf) cv, Value.slice Bv (m - hf) dv], Value.int IntKind.i64 0] :: Value.agg #[Value.bool l, Value.slice A m c, Value.slice B m d] :: Value.tuple #[Value.agg #[Value.bool l, Value.slice Au hf cu, Value.slice Bu hf du], Value.agg #[Value.bool l, Value.slice Av (m - hf) cv, Value.slice Bv (m - hf) dv], Value.int IntKind.i64 0] :: Value.agg #[Value.bool l, Value.slice Au hf cu, Value.slice Bu hf du] :: Value.agg #[Value.bool l, Value.slice Av (m - hf) cv, Value.slice Bv (m - hf) dv] :: Value.int IntKind.i64 0 :: Value.pointer (some ⟨w.heap.size, 1, none⟩) :: Value.slice A m c :: Value.int IntKind.i64 (m : Int) :: Value.bool false :: undef :: undef :: undef :: undef :: undef :: undef :: undef :: undef :: undef :: undef :: undef :: undef :: undef :: undef :: undef :: Value.pointer (some ⟨ru, 1, none⟩) :: Value.slice Au hf cu :: Value.int IntKind.i64 (hf : Int) :: Value.pointer (some ⟨rv, 1, none⟩) :: Value.slice Av (m - hf) cv :: Value.int IntKind.i64 ↑(m - hf) :: Value.int IntKind.i64 ((hf : Int) - ↑(m - hf)) :: Value.int IntKind.i64 0 :: Value.bool false :: Value.bool false :: Value.int IntKind.i64 ((hf : Int) - ↑(m - hf)) :: Value.bool false :: Value.bool false :: Value.bool false :: Value.int IntKind.i64 ((hf : Int) - ↑(m - hf)) :: Value.bool false :: Value.bool false :: Value.tuple #[Value.slice (some ⟨gq, 0, none⟩) 1 1, Value.int IntKind.i64 0] :: Value.agg #[Value.bool l, Value.slice Au hf cu, Value.slice Bu hf du] :: Value.agg #[Value.bool l, Value.slice Av (m - hf) cv, Value.slice Bv (m - hf) dv] :: Value.tuple #[Value.slice (some ⟨gq, 0, none⟩) 1 1, Value.int IntKind.i64 0] :: Value.slice (some ⟨gq, 0, none⟩) 1 1 :: Value.int IntKind.i64 0 :: (z 76) :: (z 77) :: (z 78) :: (z 79) :: (z 80) :: (z 81) :: (z 82) :: (z 83) :: (z 84) :: (z 85) :: (z 86) :: (z 87) :: (z 88) :: (z 89) :: (z 90) :: undef :: undef :: undef :: undef :: undef :: undef :: undef :: undef :: undef :: undef :: undef :: undef :: undef :: undef :: undef :: undef :: undef :: undef :: undef :: undef :: undef :: undef :: undef :: undef :: undef :: undef :: undef :: undef :: undef :: undef :: undef :: undef :: undef :: undef :: undef :: undef :: undef :: undef :: undef :: undef :: undef :: undef :: undef :: undef :: undef :: undef :: undef :: undef :: undef :: undef :: undef :: undef :: undef :: undef :: undef :: undef :: undef :: undef :: undef :: undef :: undef :: undef :: undef :: undef :: undef :: undef :: undef :: undef :: undef :: undef :: undef :: [])), []⟩ ∧ Hid ((b 0 = true → (z 76) = Value.int IntKind.i64 0) ∧ (b 1 = true → (z 77) = .bool false) ∧ (b 2 = true → (z 78) = .bool false) ∧ (b 3 = true → (z 79) = Value.slice (some ⟨gq, 0, none⟩) 1 1) ∧ (b 4 = true → (z 80) = .int .i64 1) ∧ (b 5 = true → (z 81) = .bool false) ∧ (b 6 = true → (z 82) = .bool false) ∧ (b 7 = true → (z 83) = .bool false) ∧ (b 8 = true → (z 84) = Value.slice (some ⟨gq, 0, none⟩) 1 1) ∧ (b 9 = true → (z 85) = .pointer (some ⟨gq, 0, none⟩)) ∧ (b 10 = true → (z 86) = .agg #[.bool l, .slice Aq m cq, .slice Bq m dq]) ∧ (b 11 = true → (z 87) = .agg #[.bool l, .slice A m c, .slice B m d]) ∧ (b 12 = true → (z 88) = .bool true) ∧ (b 13 = true → (z 89) = .bool false) ∧ (b 14 = true → (z 90) = .bool false)) ∧ Hid (Below w5.heap.size w5 wy)) (by kernel_rfl) (by kernel_rfl) ?startR ?stepsR ?doneR
      case startR =>
        intro b hb
        refine ⟨fun s => undef, rfl, Lib.hid ⟨?_, ?_, ?_, ?_, ?_, ?_, ?_, ?_, ?_, ?_, ?_, ?_, ?_, ?_, ?_⟩, Lib.hid ((show Still w5 w5.drew from ⟨rfl, rfl, rfl, rfl⟩).below _)⟩
        all_goals (intro e; first | rfl | (rw [hb _ (by decide)] at e; cases e))
      case stepsR =>
        refine ⟨?_, ?_, ?_, ?_, ?_, ?_, ?_, ?_, ?_, ?_, ?_, ?_, ?_, ?_, ?_, trivial⟩
        · rintro b a wy hb hd ⟨z, rfl, HV, HW⟩ K hK
          clear hd
          go_simp
          have V := HV.out
          have V10 := V.2.2.2.2.2.2.2.2.2.2
          exact hK _ _ ⟨fun s => if s = 76 then Value.int IntKind.i64 0 else z s, rfl, Lib.hid ⟨fun _ => rfl, V.2.1, V.2.2.1, V.2.2.2.1, V.2.2.2.2.1, V.2.2.2.2.2.1, V.2.2.2.2.2.2.1, V.2.2.2.2.2.2.2.1, V.2.2.2.2.2.2.2.2.1, V.2.2.2.2.2.2.2.2.2.1, V10.1, V10.2.1, V10.2.2.1, V10.2.2.2.1, V10.2.2.2.2⟩, HW⟩
        · rintro b a wy hb hd ⟨z, rfl, HV, HW⟩ K hK
          simp [Region.binds] at hd
          have e0 : (z 76) = Value.int IntKind.i64 0 := (HV.out.1) (by simp [hd])
          clear hd
          go_simp
          have V := HV.out
          have V10 := V.2.2.2.2.2.2.2.2.2.2
          exact hK _ _ ⟨fun s => if s = 77 then .bool false else if s = 76 then Value.int IntKind.i64 0 else z s, rfl, Lib.hid ⟨fun _ => rfl, fun _ => rfl, V.2.2.1, V.2.2.2.1, V.2.2.2.2.1, V.2.2.2.2.2.1, V.2.2.2.2.2.2.1, V.2.2.2.2.2.2.2.1, V.2.2.2.2.2.2.2.2.1, V.2.2.2.2.2.2.2.2.2.1, V10.1, V10.2.1, V10.2.2.1, V10.2.2.2.1, V10.2.2.2.2⟩, HW⟩
        · rintro b a wy hb hd ⟨z, rfl, HV, HW⟩ K hK
          simp [Region.binds] at hd
          have e1 : (z 77) = .bool false := (HV.out.2.1) (by simp [hd])
          clear hd
          go_simp
          have V := HV.out
          have V10 := V.2.2.2.2.2.2.2.2.2.2
          exact hK _ _ ⟨fun s => if s = 78 then .bool false else if s = 77 then .bool false else z s, rfl, Lib.hid ⟨V.1, fun _ => rfl, fun _ => rfl, V.2.2.2.1, V.2.2.2.2.1, V.2.2.2.2.2.1, V.2.2.2.2.2.2.1, V.2.2.2.2.2.2.2.1, V.2.2.2.2.2.2.2.2.1, V.2.2.2.2.2.2.2.2.2.1, V10.1, V10.2.1, V10.2.2.1, V10.2.2.2.1, V10.2.2.2.2⟩, HW⟩
        · rintro b a wy hb hd ⟨z, rfl, HV, HW⟩ K hK
          simp [Region.binds] at hd
          have e2 : (z 78) = .bool false := (HV.out.2.2.1) (by simp [hd])
          clear hd
          go_simp
          have V := HV.out
          have V10 := V.2.2.2.2.2.2.2.2.2.2
          exact hK _ _ ⟨fun s => if s = 79 then Value.slice (some ⟨gq, 0, none⟩) 1 1 else if s = 78 then .bool false else z s, rfl, Lib.hid ⟨V.1, V.2.1, fun _ => rfl, fun _ => rfl, V.2.2.2.2.1, V.2.2.2.2.2.1, V.2.2.2.2.2.2.1, V.2.2.2.2.2.2.2.1, V.2.2.2.2.2.2.2.2.1, V.2.2.2.2.2.2.2.2.2.1, V10.1, V10.2.1, V10.2.2.1, V10.2.2.2.1, V10.2.2.2.2⟩, HW⟩
        · rintro b a wy hb hd ⟨z, rfl, HV, HW⟩ K hK
          simp [Region.binds] at hd
          have e2 : (z 78) = .bool false := (HV.out.2.2.1) (by simp [hd])
          have e3 : (z 79) = Value.slice (some ⟨gq, 0, none⟩) 1 1 := (HV.out.2.2.2.1) (by simp [hd])
          clear hd
          go_simp
          have V := HV.out
          have V10 := V.2.2.2.2.2.2.2.2.2.2
          exact hK _ _ ⟨fun s => if s = 80 then .int .i64 1 else if s = 78 then .bool false else if s = 79 then Value.slice (some ⟨gq, 0, none⟩) 1 1 else z s, rfl, Lib.hid ⟨V.1, V.2.1, fun _ => rfl, fun _ => rfl, fun _ => rfl, V.2.2.2.2.2.1, V.2.2.2.2.2.2.1, V.2.2.2.2.2.2.2.1, V.2.2.2.2.2.2.2.2.1, V.2.2.2.2.2.2.2.2.2.1, V10.1, V10.2.1, V10.2.2.1, V10.2.2.2.1, V10.2.2.2.2⟩, HW⟩
        · rintro b a wy hb hd ⟨z, rfl, HV, HW⟩ K hK
          simp [Region.binds] at hd
          have e2 : (z 78) = .bool false := (HV.out.2.2.1) (by simp [hd])
          have e4 : (z 80) = .int .i64 1 := (HV.out.2.2.2.2.1) (by simp [hd])
          clear hd
          go_simp
          have V := HV.out
          have V10 := V.2.2.2.2.2.2.2.2.2.2
          exact hK _ _ ⟨fun s => if s = 81 then .bool false else if s = 78 then .bool false else if s = 80 then .int .i64 1 else z s, rfl, Lib.hid ⟨V.1, V.2.1, fun _ => rfl, V.2.2.2.1, fun _ => rfl, fun _ => rfl, V.2.2.2.2.2.2.1, V.2.2.2.2.2.2.2.1, V.2.2.2.2.2.2.2.2.1, V.2.2.2.2.2.2.2.2.2.1, V10.1, V10.2.1, V10.2.2.1, V10.2.2.2.1, V10.2.2.2.2⟩, HW⟩
        · rintro b a wy hb hd ⟨z, rfl, HV, HW⟩ K hK
          simp [Region.binds] at hd
          have e2 : (z 78) = .bool false := (HV.out.2.2.1) (by simp [hd])
          have e5 : (z 81) = .bool false := (HV.out.2.2.2.2.2.1) (by simp [hd])
          clear hd
          go_simp
          have V := HV.out
          have V10 := V.2.2.2.2.2.2.2.2.2.2
          exact hK _ _ ⟨fun s => if s = 82 then .bool false else if s = 78 then .bool false else if s = 81 then .bool false else z s, rfl, Lib.hid ⟨V.1, V.2.1, fun _ => rfl, V.2.2.2.1, V.2.2.2.2.1, fun _ => rfl, fun _ => rfl, V.2.2.2.2.2.2.2.1, V.2.2.2.2.2.2.2.2.1, V.2.2.2.2.2.2.2.2.2.1, V10.1, V10.2.1, V10.2.2.1, V10.2.2.2.1, V10.2.2.2.2⟩, HW⟩
        · rintro b a wy hb hd ⟨z, rfl, HV, HW⟩ K hK
          simp [Region.binds] at hd
          have e6 : (z 82) = .bool false := (HV.out.2.2.2.2.2.2.1) (by simp [hd])
          clear hd
          go_simp
          have V := HV.out
          have V10 := V.2.2.2.2.2.2.2.2.2.2
          exact hK _ _ ⟨fun s => if s = 83 then .bool false else if s = 82 then .bool false else z s, rfl, Lib.hid ⟨V.1, V.2.1, V.2.2.1, V.2.2.2.1, V.2.2.2.2.1, V.2.2.2.2.2.1, fun _ => rfl, fun _ => rfl, V.2.2.2.2.2.2.2.2.1, V.2.2.2.2.2.2.2.2.2.1, V10.1, V10.2.1, V10.2.2.1, V10.2.2.2.1, V10.2.2.2.2⟩, HW⟩
        · rintro b a wy hb hd ⟨z, rfl, HV, HW⟩ K hK
          simp [Region.binds] at hd
          have e7 : (z 83) = .bool false := (HV.out.2.2.2.2.2.2.2.1) (by simp [hd])
          clear hd
          go_simp
          have V := HV.out
          have V10 := V.2.2.2.2.2.2.2.2.2.2
          exact hK _ _ ⟨fun s => if s = 84 then Value.slice (some ⟨gq, 0, none⟩) 1 1 else if s = 83 then .bool false else z s, rfl, Lib.hid ⟨V.1, V.2.1, V.2.2.1, V.2.2.2.1, V.2.2.2.2.1, V.2.2.2.2.2.1, V.2.2.2.2.2.2.1, fun _ => rfl, fun _ => rfl, V.2.2.2.2.2.2.2.2.2.1, V10.1, V10.2.1, V10.2.2.1, V10.2.2.2.1, V10.2.2.2.2⟩, HW⟩
        · rintro b a wy hb hd ⟨z, rfl, HV, HW⟩ K hK
          simp [Region.binds] at hd
          have e7 : (z 83) = .bool false := (HV.out.2.2.2.2.2.2.2.1) (by simp [hd])
          have e8 : (z 84) = Value.slice (some ⟨gq, 0, none⟩) 1 1 := (HV.out.2.2.2.2.2.2.2.2.1) (by simp [hd])
          clear hd
          go_simp
          have V := HV.out
          have V10 := V.2.2.2.2.2.2.2.2.2.2
          exact hK _ _ ⟨fun s => if s = 85 then .pointer (some ⟨gq, 0, none⟩) else if s = 83 then .bool false else if s = 84 then Value.slice (some ⟨gq, 0, none⟩) 1 1 else z s, rfl, Lib.hid ⟨V.1, V.2.1, V.2.2.1, V.2.2.2.1, V.2.2.2.2.1, V.2.2.2.2.2.1, V.2.2.2.2.2.2.1, fun _ => rfl, fun _ => rfl, fun _ => rfl, V10.1, V10.2.1, V10.2.2.1, V10.2.2.2.1, V10.2.2.2.2⟩, HW⟩
        · rintro b a wy hb hd ⟨z, rfl, HV, HW⟩ K hK
          simp [Region.binds] at hd
          have e7 : (z 83) = .bool false := (HV.out.2.2.2.2.2.2.2.1) (by simp [hd])
          have e9 : (z 85) = .pointer (some ⟨gq, 0, none⟩) := (HV.out.2.2.2.2.2.2.2.2.2.1) (by simp [hd])
          clear hd
          have rq := Rq.out.below Rq.out.lt HW.out
          rw [e7]
          rw [e9]
          refine if_wanted (by rfl) (wp_load_d (.tmp 85) rfl gq _ rfl (row_d rq) ?_)
          have V := HV.out
          have V10 := V.2.2.2.2.2.2.2.2.2.2
          exact hK _ _ ⟨fun s => if s = 86 then .agg #[.bool l, .slice Aq m cq, .slice Bq m dq] else if s = 83 then .bool false else if s = 85 then .pointer (some ⟨gq, 0, none⟩) else z s, rfl, Lib.hid ⟨V.1, V.2.1, V.2.2.1, V.2.2.2.1, V.2.2.2.2.1, V.2.2.2.2.2.1, V.2.2.2.2.2.2.1, fun _ => rfl, V.2.2.2.2.2.2.2.2.1, fun _ => rfl, fun _ => rfl, V10.2.1, V10.2.2.1, V10.2.2.2.1, V10.2.2.2.2⟩, HW⟩
        · rintro b a wy hb hd ⟨z, rfl, HV, HW⟩ K hK
          simp [Region.binds] at hd
          have e7 : (z 83) = .bool false := (HV.out.2.2.2.2.2.2.2.1) (by simp [hd])
          clear hd
          have hbx := XN.out.below XN.out.lt HW.out
          rw [e7]
          refine if_wanted (by rfl) (wp_load_d (.tmp 2) rfl w.heap.size _ rfl hbx ?_)
          have V := HV.out
          have V10 := V.2.2.2.2.2.2.2.2.2.2
          exact hK _ _ ⟨fun s => if s = 87 then .agg #[.bool l, .slice A m c, .slice B m d] else if s = 83 then .bool false else z s, rfl, Lib.hid ⟨V.1, V.2.1, V.2.2.1, V.2.2.2.1, V.2.2.2.2.1, V.2.2.2.2.2.1, V.2.2.2.2.2.2.1, fun _ => rfl, V.2.2.2.2.2.2.2.2.1, V.2.2.2.2.2.2.2.2.2.1, V10.1, fun _ => rfl, V10.2.2.1, V10.2.2.2.1, V10.2.2.2.2⟩, HW⟩
        · rintro b a wy hb hd ⟨z, rfl, HV, HW⟩ K hK
          simp [Region.binds] at hd
          have e7 : (z 83) = .bool false := (HV.out.2.2.2.2.2.2.2.1) (by simp [hd])
          have e10 : (z 86) = .agg #[.bool l, .slice Aq m cq, .slice Bq m dq] := (HV.out.2.2.2.2.2.2.2.2.2.2.1) (by simp [hd])
          have e11 : (z 87) = .agg #[.bool l, .slice A m c, .slice B m d] := (HV.out.2.2.2.2.2.2.2.2.2.2.2.1) (by simp [hd])
          clear hd
          have C1 := same_yes l (Nq.out.below HW.out) (NN.out.below HW.out)
          go_simp
          go_at_call 16
          refine (C1).mono ?_
          rintro e wz ⟨rfl, kz⟩
          try go_simp
          have V := HV.out
          have V10 := V.2.2.2.2.2.2.2.2.2.2
          exact hK _ _ ⟨fun s => if s = 88 then .bool true else if s = 83 then .bool false else if s = 86 then .agg #[.bool l, .slice Aq m cq, .slice Bq m dq] else if s = 87 then .agg #[.bool l, .slice A m c, .slice B m d] else z s, rfl, Lib.hid ⟨V.1, V.2.1, V.2.2.1, V.2.2.2.1, V.2.2.2.2.1, V.2.2.2.2.2.1, V.2.2.2.2.2.2.1, fun _ => rfl, V.2.2.2.2.2.2.2.2.1, V.2.2.2.2.2.2.2.2.2.1, fun _ => rfl, fun _ => rfl, fun _ => rfl, V10.2.2.2.1, V10.2.2.2.2⟩, Lib.hid (HW.out.trans (kz.mono HW.out.size))⟩
        · rintro b a wy hb hd ⟨z, rfl, HV, HW⟩ K hK
          simp [Region.binds] at hd
          have e7 : (z 83) = .bool false := (HV.out.2.2.2.2.2.2.2.1) (by simp [hd])
          have e12 : (z 88) = .bool true := (HV.out.2.2.2.2.2.2.2.2.2.2.2.2.1) (by simp [hd])
          clear hd
          go_simp
          have V := HV.out
          have V10 := V.2.2.2.2.2.2.2.2.2.2
          exact hK _ _ ⟨fun s => if s = 89 then .bool false else if s = 83 then .bool false else if s = 88 then .bool true else z s, rfl, Lib.hid ⟨V.1, V.2.1, V.2.2.1, V.2.2.2.1, V.2.2.2.2.1, V.2.2.2.2.2.1, V.2.2.2.2.2.2.1, fun _ => rfl, V.2.2.2.2.2.2.2.2.1, V.2.2.2.2.2.2.2.2.2.1, V10.1, V10.2.1, fun _ => rfl, fun _ => rfl, V10.2.2.2.2⟩, HW⟩
        · rintro b a wy hb hd ⟨z, rfl, HV, HW⟩ K hK
          simp [Region.binds] at hd
          have e7 : (z 83) = .bool false := (HV.out.2.2.2.2.2.2.2.1) (by simp [hd])
          have e13 : (z 89) = .bool false := (HV.out.2.2.2.2.2.2.2.2.2.2.2.2.2.1) (by simp [hd])
          clear hd
          go_simp
          have V := HV.out
          have V10 := V.2.2.2.2.2.2.2.2.2.2
          exact hK _ _ ⟨fun s => if s = 90 then .bool false else if s = 83 then .bool false else if s = 89 then .bool false else z s, rfl, Lib.hid ⟨V.1, V.2.1, V.2.2.1, V.2.2.2.1, V.2.2.2.2.1, V.2.2.2.2.2.1, V.2.2.2.2.2.2.1, fun _ => rfl, V.2.2.2.2.2.2.2.2.1, V.2.2.2.2.2.2.2.2.2.1, V10.1, V10.2.1, V10.2.2.1, fun _ => rfl, fun _ => rfl⟩, HW⟩
      case doneR =>
        rintro b a w6 hb ⟨z, rfl, HV, HW⟩
        have e0 := (HV.out.1) (hb 0)
        have e1 := (HV.out.2.1) (hb 1)
        have e2 := (HV.out.2.2.1) (hb 2)
        have e3 := (HV.out.2.2.2.1) (hb 3)
        have e4 := (HV.out.2.2.2.2.1) (hb 4)
        have e5 := (HV.out.2.2.2.2.2.1) (hb 5)
        have e6 := (HV.out.2.2.2.2.2.2.1) (hb 6)
        have e7 := (HV.out.2.2.2.2.2.2.2.1) (hb 7)
        have e8 := (HV.out.2.2.2.2.2.2.2.2.1) (hb 8)
        have e9 := (HV.out.2.2.2.2.2.2.2.2.2.1) (hb 9)
        have e10 := (HV.out.2.2.2.2.2.2.2.2.2.2.1) (hb 10)
        have e11 := (HV.out.2.2.2.2.2.2.2.2.2.2.2.1) (hb 11)
        have e12 := (HV.out.2.2.2.2.2.2.2.2.2.2.2.2.1) (hb 12)
        have e13 := (HV.out.2.2.2.2.2.2.2.2.2.2.2.2.2.1) (hb 13)
        have e14 := (HV.out.2.2.2.2.2.2.2.2.2.2.2.2.2.2) (hb 14)
        simp only [e0, e1, e2, e3, e4, e5, e6, e7, e8, e9, e10, e11, e12, e13, e14]
        clear HV hb e0 e1 e2 e3 e4 e5 e6 e7 e8 e9 e10 e11 e12 e13 e14
        have kz := HW.out
        clear HW
        replace XN := Lib.hid (XN.out.below XN.out.lt kz)
        replace NN := Lib.hid (NN.out.below kz)
        replace MM := Lib.hid (MM.out.far kz)
        replace Rq := Lib.hid (Rq.out.below Rq.out.lt kz)
        replace Nq := Lib.hid (Nq.out.below kz)
        replace HB := Lib.hid (HB.out.trans (kz.mono HB.out.size))
        clear kz
        clear Rq Nq
        have q1 := XN.out.of.cellAt (i := 1) rfl
        have hm1 : ¬ ((m : Int) - 1 = 0) := by omega
        obtain ⟨kx, hkx⟩ : ∃ q, q = 1 + ax.toNat % (m - 1) := ⟨_, rfl⟩
        have hmod := Nat.mod_lt ax.toNat (show 0 < m - 1 by omega)
        have hk1 : 0 < kx := by omega
        have hk2 : kx < ks.length := by omega
        have hk3 : kx ≤ m := by omega
        have hax : ax.toNat < 256 := ax.toNat_lt
        have hrem : wrap64 (1 + (wrap64 (ax.toNat : Int)).tmod ((m : Int) - 1)) = (kx : Int) := by
          rw [show (m : Int) - 1 = ((m - 1 : Nat) : Int) by omega, show wrap64 (ax.toNat : Int) = (ax.toNat : Int) by unfold wrap64; omega]
          have : ((ax.toNat : Int)).tmod ((m - 1 : Nat) : Int) = ((ax.toNat % (m - 1) : Nat) : Int) := rfl
          rw [this]
          unfold wrap64
          omega
        have HREM := Lib.hid hrem
        clear hrem hkx hmod hax h2
        go_upto_region 14 with (fail)
        rw [HREM.out]
        clear HREM q1
        have hs1 := fun w => run_nums_head w A m c kx hk3 NN.out.kc NN.out.km
        have hs2 := fun w => run_nums_head w B m d kx hk3 NN.out.vc NN.out.vm
        refine Inv2.wp_region_inv (fun b a wy => ∃ (z : Nat → Value) (z14 : Value), a = ⟨(List.toArray (Value.agg #[Value.bool l, Value.slice A m c, Value.slice B m d] :: Value.int IntKind.u8 ↑ax.toNat :: Value.pointer (some ⟨w.heap.size, 0, none⟩) :: undef :: Value.bool false :: Value.map (some bm) :: Value.bool true :: Value.pointer (some ⟨ru, 0, none⟩) :: Value.pointer (some ⟨rv, 0, none⟩) :: Value.int IntKind.i64 0 :: Value.int IntKind.i64 ((hf : Int) - ↑(m - hf)) :: Value.slice (some ⟨gq, 0, none⟩) 1 1 :: Value.int IntKind.i64 0 :: Value.int IntKind.i64 (kx : Int) :: z14 :: undef :: undef :: undef :: undef :: undef :: Value.tuple #[Value.map (some bm), Value.bool true] :: Value.agg #[Value.bool l, Value.slice A m c, Value.slice B m d] :: Value.tuple #[Value.map (some bm), Value.bool true] :: Value.map (some bm) :: Value.bool true :: Value.bool true :: Value.bool false :: undef :: Value.tuple #[Value.agg #[Value.bool l, Value.slice Au hf cu, Value.slice Bu hf du], Value.agg #[Value.bool l, Value.slice Av (m - hf) cv, Value.slice Bv (m - hf) dv], Value.int IntKind.i64 0] :: Value.agg #[Value.bool l, Value.slice A m c, Value.slice B m d] :: Value.tuple #[Value.agg #[Value.bool l, Value.slice Au hf cu, Value.slice Bu hf du], Value.agg #[Value.bool l, Value.slice Av (m - hf) cv, Value.slice Bv (m - hf) dv], Value.int IntKind.i64 0] :: Value.agg #[Value.bool l, Value.slice Au hf cu, Value.slice Bu hf du] :: Value.agg #[Value.bool l, Value.slice Av (m - hf) cv, Value.slice Bv (m - hf) dv] :: Value.int IntKind.i64 0 :: Value.pointer (some ⟨w.heap.size, 1, none⟩) :: Value.slice A m c :: Value.int IntKind.i64 (m : Int) :: Value.bool false :: undef :: undef :: undef :: undef :: undef :: undef :: undef :: undef :: undef :: undef :: undef :: undef :: undef :: undef :: undef :: Value.pointer (some ⟨ru, 1, none⟩) :: Value.slice Au hf cu :: Value.int IntKind.i64 (hf : Int) :: Value.pointer (some ⟨rv, 1, none⟩) :: Value.slice Av (m - hf) cv :: Value.int IntKind.i64 ↑(m - hf) :: Value.int IntKind.i64 ((hf : Int) - ↑(m - hf)) :: Value.int IntKind.i64 0 :: Value.bool false :: Value.bool false :: Value.int IntKind.i64 ((hf : Int) - ↑(m - hf)) :: Value.bool false :: Value.bool false :: Value.bool false :: Value.int IntKind.i64 ((hf : Int) - ↑(m - hf)) :: Value.bool false :: Value.bool false :: Value.tuple #[Value.slice (some ⟨gq, 0, none⟩) 1 1, Value.int IntKind.i64 0] :: Value.agg #[Value.bool l, Value.slice Au hf cu, Value.slice Bu hf du] :: Value.agg #[Value.bool l, Value.slice Av (m - hf) cv, Value.slice Bv (m - hf) dv] :: Value.tuple #[Value.slice (some ⟨gq, 0, none⟩) 1 1, Value.int IntKind.i64 0] :: Value.slice (some ⟨gq, 0, none⟩) 1 1 :: Value.int IntKind.i64 0 :: Value.int IntKind.i64 0 :: Value.bool false :: Value.bool false :: Value.slice (some ⟨gq, 0, none⟩) 1 1 :: Value.int IntKind.i64 1 :: Value.bool false :: Value.bool false :: Value.bool false :: Value.slice (some ⟨gq, 0, none⟩) 1 1 :: Value.pointer (some ⟨gq, 0, none⟩) :: Value.agg #[Value.bool l, Value.slice Aq m cq, Value.slice Bq m dq] :: Value.agg #[Value.bool l, Value.slice A m c, Value.slice B m d] :: Value.bool true :: Value.bool false :: Value.bool false :: Value.int IntKind.u8 ↑ax.toNat :: Value.int IntKind.i64 (wrap64 ↑ax.toNat) :: Value.pointer (some ⟨w.heap.size, 1, none⟩) :: Value.slice A m c :: Value.int IntKind.i64 (m : Int) :: Value.int IntKind.i64 ((m : Int) - 1) :: Value.int IntKind.i64 ((wrap64 ↑ax.toNat).tmod ((m : Int) - 1)) :: Value.int IntKind.i64 (kx : Int) :: (z 99) :: (z 100) :: (z 101) :: (z 102) :: (z 103) :: (z 104) :: (z 105) :: (z 106) :: (z 107) :: (z 108) :: (z 109) :: undef :: undef :: undef :: undef :: undef :: undef :: undef :: undef :: undef :: undef :: undef :: undef :: undef :: undef :: undef :: undef :: undef :: undef :: undef :: undef :: undef :: undef :: undef :: undef :: undef :: undef :: undef :: undef :: undef :: undef :: undef :: undef :: undef :: undef :: undef :: undef :: undef :: undef :: undef :: undef :: undef :: undef :: undef :: undef :: undef :: undef :: undef :: undef :: undef :: undef :: undef :: undef :: [])), []⟩ ∧ Hid ((b 0 = true → (z 99) = .pointer (some ⟨w.heap.size, 0, none⟩)) ∧ (b 1 = true → (z 100) = .bool l) ∧ (b 2 = true → (z 101) = .pointer (some ⟨w.heap.size, 1, none⟩)) ∧ (b 3 = true → (z 102) = .slice A m c) ∧ (b 4 = true → (z 103) = Value.int IntKind.i64 (kx : Int)) ∧ (b 5 = true → (z 104) = .slice A kx c) ∧ (b 6 = true → (z 105) = .pointer (some ⟨w.heap.size, 2, none⟩)) ∧ (b 7 = true → (z 106) = .slice B m d) ∧ (b 8 = true → (z 107) = Value.int IntKind.i64 (kx : Int)) ∧ (b 9 = true → (z 108) = .slice B kx d) ∧ (b 10 = true → (z 109) = .agg #[.bool l, .slice A kx c, .slice B kx d])) ∧ Hid (Below w6.heap.size w6 wy) ∧ Hid ((b 11 = true → b 12 = false → ∃ r, z14 = .pointer (some ⟨r, 0, none⟩) ∧ w6.heap.size ≤ r ∧ RowV wy r 24 [.bool false, .slice none 0 0, .slice none 0 0]) ∧ (b 12 = true → b 11 = true ∧ ∃ r, z14 = .pointer (some ⟨r, 0, none⟩) ∧ w6.heap.size ≤ r ∧ RowV wy r 24 [.bool l, .slice A kx c, .slice B kx d]))) (by kernel_rfl) (by kernel_rfl) ?startS ?stepsS ?doneS
        case startS =>
          intro b hb
          refine ⟨fun s => undef, undef, rfl, Lib.hid ⟨?_, ?_, ?_, ?_, ?_, ?_, ?_, ?_, ?_, ?_, ?_⟩, Lib.hid ((show Still w6 w6.drew from ⟨rfl, rfl, rfl, rfl⟩).below _), Lib.hid (⟨(fun e => by rw [hb _ (by decide)] at e; cases e), (fun e => by rw [hb _ (by decide)] at e; cases e)⟩)⟩
          all_goals (intro e; first | rfl | (rw [hb _ (by decide)] at e; cases e))
        case stepsS =>
          refine ⟨?_, ?_, ?_, ?_, ?_, ?_, ?_, ?_, ?_, ?_, ?_, ?_, ?_, trivial⟩
          · rintro b a wy hb hd ⟨z, z14, rfl, HV, HW, HX⟩ K hK
            clear hd
            go_simp
            have V := HV.out
            exact hK _ _ ⟨fun s => if s = 99 then .pointer (some ⟨w.heap.size, 0, none⟩) else z s, _, rfl, Lib.hid ⟨fun _ => rfl, V.2.1, V.2.2.1, V.2.2.2.1, V.2.2.2.2.1, V.2.2.2.2.2.1, V.2.2.2.2.2.2.1, V.2.2.2.2.2.2.2.1, V.2.2.2.2.2.2.2.2.1, V.2.2.2.2.2.2.2.2.2.1, V.2.2.2.2.2.2.2.2.2.2⟩, HW, HX⟩
          · rintro b a wy hb hd ⟨z, z14, rfl, HV, HW, HX⟩ K hK
            simp [Region.binds] at hd
            have e0 : (z 99) = .pointer (some ⟨w.heap.size, 0, none⟩) := (HV.out.1) (by simp [hd])
            clear hd
            have hbx := (XN.out.below XN.out.lt HW.out).of.cellAt (i := 0) rfl
            go_simp
            have V := HV.out
            exact hK _ _ ⟨fun s => if s = 100 then .bool l else if s = 99 then .pointer (some ⟨w.heap.size, 0, none⟩) else z s, _, rfl, Lib.hid ⟨fun _ => rfl, fun _ => rfl, V.2.2.1, V.2.2.2.1, V.2.2.2.2.1, V.2.2.2.2.2.1, V.2.2.2.2.2.2.1, V.2.2.2.2.2.2.2.1, V.2.2.2.2.2.2.2.2.1, V.2.2.2.2.2.2.2.2.2.1, V.2.2.2.2.2.2.2.2.2.2⟩, HW, HX⟩
          · rintro b a wy hb hd ⟨z, z14, rfl, HV, HW, HX⟩ K hK
            clear hd
            go_simp
            have V := HV.out
            exact hK _ _ ⟨fun s => if s = 101 then .pointer (some ⟨w.heap.size, 1, none⟩) else z s, _, rfl, Lib.hid ⟨V.1, V.2.1, fun _ => rfl, V.2.2.2.1, V.2.2.2.2.1, V.2.2.2.2.2.1, V.2.2.2.2.2.2.1, V.2.2.2.2.2.2.2.1, V.2.2.2.2.2.2.2.2.1, V.2.2.2.2.2.2.2.2.2.1, V.2.2.2.2.2.2.2.2.2.2⟩, HW, HX⟩
          · rintro b a wy hb hd ⟨z, z14, rfl, HV, HW, HX⟩ K hK
            simp [Region.binds] at hd
            have e2 : (z 101) = .pointer (some ⟨w.heap.size, 1, none⟩) := (HV.out.2.2.1) (by simp [hd])
            clear hd
            have hbx := (XN.out.below XN.out.lt HW.out).of.cellAt (i := 1) rfl
            go_simp
            have V := HV.out
            exact hK _ _ ⟨fun s => if s = 102 then .slice A m c else if s = 101 then .pointer (some ⟨w.heap.size, 1, none⟩) else z s, _, rfl, Lib.hid ⟨V.1, V.2.1, fun _ => rfl, fun _ => rfl, V.2.2.2.2.1, V.2.2.2.2.2.1, V.2.2.2.2.2.2.1, V.2.2.2.2.2.2.2.1, V.2.2.2.2.2.2.2.2.1, V.2.2.2.2.2.2.2.2.2.1, V.2.2.2.2.2.2.2.2.2.2⟩, HW, HX⟩
          · rintro b a wy hb hd ⟨z, z14, rfl, HV, HW, HX⟩ K hK
            clear hd
            go_simp
            have V := HV.out
            exact hK _ _ ⟨fun s => if s = 103 then Value.int IntKind.i64 (kx : Int) else z s, _, rfl, Lib.hid ⟨V.1, V.2.1, V.2.2.1, V.2.2.2.1, fun _ => rfl, V.2.2.2.2.2.1, V.2.2.2.2.2.2.1, V.2.2.2.2.2.2.2.1, V.2.2.2.2.2.2.2.2.1, V.2.2.2.2.2.2.2.2.2.1, V.2.2.2.2.2.2.2.2.2.2⟩, HW, HX⟩
          · rintro b a wy hb hd ⟨z, z14, rfl, HV, HW, HX⟩ K hK
            simp [Region.binds] at hd
            have e3 : (z 102) = .slice A m c := (HV.out.2.2.2.1) (by simp [hd])
            have e4 : (z 103) = Value.int IntKind.i64 (kx : Int) := (HV.out.2.2.2.2.1) (by simp [hd])
            clear hd
            go_simp
            have V := HV.out
            exact hK _ _ ⟨fun s => if s = 104 then .slice A kx c else if s = 102 then .slice A m c else if s = 103 then Value.int IntKind.i64 (kx : Int) else z s, _, rfl, Lib.hid ⟨V.1, V.2.1, V.2.2.1, fun _ => rfl, fun _ => rfl, fun _ => rfl, V.2.2.2.2.2.2.1, V.2.2.2.2.2.2.2.1, V.2.2.2.2.2.2.2.2.1, V.2.2.2.2.2.2.2.2.2.1, V.2.2.2.2.2.2.2.2.2.2⟩, HW, HX⟩
          · rintro b a wy hb hd ⟨z, z14, rfl, HV, HW, HX⟩ K hK
            clear hd
            go_simp
            have V := HV.out
            exact hK _ _ ⟨fun s => if s = 105 then .pointer (some ⟨w.heap.size, 2, none⟩) else z s, _, rfl, Lib.hid ⟨V.1, V.2.1, V.2.2.1, V.2.2.2.1, V.2.2.2.2.1, V.2.2.2.2.2.1, fun _ => rfl, V.2.2.2.2.2.2.2.1, V.2.2.2.2.2.2.2.2.1, V.2.2.2.2.2.2.2.2.2.1, V.2.2.2.2.2.2.2.2.2.2⟩, HW, HX⟩
          · rintro b a wy hb hd ⟨z, z14, rfl, HV, HW, HX⟩ K hK
            simp [Region.binds] at hd
            have e6 : (z 105) = .pointer (some ⟨w.heap.size, 2, none⟩) := (HV.out.2.2.2.2.2.2.1) (by simp [hd])
            clear hd
            have hbx := (XN.out.below XN.out.lt HW.out).of.cellAt (i := 2) rfl
            go_simp
            have V := HV.out
            exact hK _ _ ⟨fun s => if s = 106 then .slice B m d else if s = 105 then .pointer (some ⟨w.heap.size, 2, none⟩) else z s, _, rfl, Lib.hid ⟨V.1, V.2.1, V.2.2.1, V.2.2.2.1, V.2.2.2.2.1, V.2.2.2.2.2.1, fun _ => rfl, fun _ => rfl, V.2.2.2.2.2.2.2.2.1, V.2.2.2.2.2.2.2.2.2.1, V.2.2.2.2.2.2.2.2.2.2⟩, HW, HX⟩
          · rintro b a wy hb hd ⟨z, z14, rfl, HV, HW, HX⟩ K hK
            clear hd
            go_simp
            have V := HV.out
            exact hK _ _ ⟨fun s => if s = 107 then Value.int IntKind.i64 (kx : Int) else z s, _, rfl, Lib.hid ⟨V.1, V.2.1, V.2.2.1, V.2.2.2.1, V.2.2.2.2.1, V.2.2.2.2.2.1, V.2.2.2.2.2.2.1, V.2.2.2.2.2.2.2.1, fun _ => rfl, V.2.2.2.2.2.2.2.2.2.1, V.2.2.2.2.2.2.2.2.2.2⟩, HW, HX⟩
          · rintro b a wy hb hd ⟨z, z14, rfl, HV, HW, HX⟩ K hK
            simp [Region.binds] at hd
            have e7 : (z 106) = .slice B m d := (HV.out.2.2.2.2.2.2.2.1) (by simp [hd])
            have e8 : (z 107) = Value.int IntKind.i64 (kx : Int) := (HV.out.2.2.2.2.2.2.2.2.1) (by simp [hd])
            clear hd
            go_simp
            have V := HV.out
            exact hK _ _ ⟨fun s => if s = 108 then .slice B kx d else if s = 106 then .slice B m d else if s = 107 then Value.int IntKind.i64 (kx : Int) else z s, _, rfl, Lib.hid ⟨V.1, V.2.1, V.2.2.1, V.2.2.2.1, V.2.2.2.2.1, V.2.2.2.2.2.1, V.2.2.2.2.2.2.1, fun _ => rfl, fun _ => rfl, fun _ => rfl, V.2.2.2.2.2.2.2.2.2.2⟩, HW, HX⟩
          · rintro b a wy hb hd ⟨z, z14, rfl, HV, HW, HX⟩ K hK
            simp [Region.binds] at hd
            have e1 : (z 100) = .bool l := (HV.out.2.1) (by simp [hd])
            have e5 : (z 104) = .slice A kx c := (HV.out.2.2.2.2.2.1) (by simp [hd])
            have e9 : (z 108) = .slice B kx d := (HV.out.2.2.2.2.2.2.2.2.2.1) (by simp [hd])
            clear hd
            rw [e1]
            rw [e5]
            rw [e9]
            refine if_wanted (by rfl) (wp_build_as 24 #[(0, .tmp 100), (1, .tmp 104), (2, .tmp 108)] rfl #[.bool l, .slice A kx c, .slice B kx d] (by simp [Act.eval]; exact node_built l _ _ _ _ _ _) ?_)
            have V := HV.out
            exact hK _ _ ⟨fun s => if s = 109 then .agg #[.bool l, .slice A kx c, .slice B kx d] else if s = 100 then .bool l else if s = 104 then .slice A kx c else if s = 108 then .slice B kx d else z s, _, rfl, Lib.hid ⟨V.1, fun _ => rfl, V.2.2.1, V.2.2.2.1, V.2.2.2.2.1, fun _ => rfl, V.2.2.2.2.2.2.1, V.2.2.2.2.2.2.2.1, V.2.2.2.2.2.2.2.2.1, fun _ => rfl, fun _ => rfl⟩, HW, HX⟩
          · rintro b a wy hb hd ⟨z, z14, rfl, HV, HW, HX⟩ K hK
            clear hd
            obtain ⟨x1, x2⟩ := HX.out
            have b12 : b 12 = false := by
                rcases Bool.eq_false_or_eq_true (b 12) with e | e
                · exact absurd (hb.symm.trans (x2 e).1) (by decide)
                · exact e
            have kz := (Below.refl wy.heap.size wy).alloc (Nat.le_refl _) (.cells #[.bool false, .slice none 0 0, .slice none 0 0] 24)
            have LN := alloc_rowV wy 24 [.bool false, .slice none 0 0, .slice none 0 0]
            go_simp
            have V := HV.out
            exact hK _ _ ⟨fun s => z s, _, rfl, Lib.hid ⟨V.1, V.2.1, V.2.2.1, V.2.2.2.1, V.2.2.2.2.1, V.2.2.2.2.2.1, V.2.2.2.2.2.2.1, V.2.2.2.2.2.2.2.1, V.2.2.2.2.2.2.2.2.1, V.2.2.2.2.2.2.2.2.2.1, V.2.2.2.2.2.2.2.2.2.2⟩, Lib.hid (HW.out.trans (kz.mono HW.out.size)), Lib.hid ⟨fun _ _ => ⟨_, rfl, HW.out.size, LN⟩, fun e => absurd (b12.symm.trans e) (by decide)⟩⟩
          · rintro b a wy hb hd ⟨z, z14, rfl, HV, HW, HX⟩ K hK
            simp [Region.binds] at hd
            have dd11 : b 11 = true := by simp [hd]
            have e10 : (z 109) = .agg #[.bool l, .slice A kx c, .slice B kx d] := (HV.out.2.2.2.2.2.2.2.2.2.2) (by simp [hd])
            clear hd
            obtain ⟨x1, x2⟩ := HX.out
            obtain ⟨r, zz, g1, g5⟩ := x1 dd11 hb
            subst zz
            rw [e10]
            refine if_wanted (by rfl) (wp_store_row 24 (.tmp 14) (.tmp 109) rfl r #[.bool l, .slice A kx c, .slice B kx d] rfl rfl _ _ g5 node_size rfl (ones l rfl rfl) ?_)
            have V := HV.out
            exact hK _ _ ⟨fun s => if s = 109 then .agg #[.bool l, .slice A kx c, .slice B kx d] else z s, _, rfl, Lib.hid ⟨V.1, V.2.1, V.2.2.1, V.2.2.2.1, V.2.2.2.2.1, V.2.2.2.2.2.1, V.2.2.2.2.2.2.1, V.2.2.2.2.2.2.2.1, V.2.2.2.2.2.2.2.2.1, V.2.2.2.2.2.2.2.2.2.1, fun _ => rfl⟩, Lib.hid (HW.out.trans (row_below _ g1)), Lib.hid ⟨fun _ e => (by cases e), fun _ => ⟨dd11, r, rfl, g1, row_set g5⟩⟩⟩
        case doneS =>
          rintro b a w7 hb ⟨z, z14, rfl, HV, HW, HX⟩
          have e0 := (HV.out.1) (hb 0)
          have e1 := (HV.out.2.1) (hb 1)
          have e2 := (HV.out.2.2.1) (hb 2)
          have e3 := (HV.out.2.2.2.1) (hb 3)
          have e4 := (HV.out.2.2.2.2.1) (hb 4)
          have e5 := (HV.out.2.2.2.2.2.1) (hb 5)
          have e6 := (HV.out.2.2.2.2.2.2.1) (hb 6)
          have e7 := (HV.out.2.2.2.2.2.2.2.1) (hb 7)
          have e8 := (HV.out.2.2.2.2.2.2.2.2.1) (hb 8)
          have e9 := (HV.out.2.2.2.2.2.2.2.2.2.1) (hb 9)
          have e10 := (HV.out.2.2.2.2.2.2.2.2.2.2) (hb 10)
          simp only [e0, e1, e2, e3, e4, e5, e6, e7, e8, e9, e10]
          clear HV e0 e1 e2 e3 e4 e5 e6 e7 e8 e9 e10
          obtain ⟨_, x2⟩ := HX.out
          obtain ⟨_, rx, zz, _, g5⟩ := x2 (hb 12)
          subst zz
          have Xx := Lib.hid (row_d g5)
          have kz := HW.out
          clear HX HW hb x2 g5 hs1 hs2
          replace XN := Lib.hid (XN.out.below XN.out.lt kz)
          replace NN := Lib.hid (NN.out.below kz)
          replace MM := Lib.hid (MM.out.far kz)
          replace HB := Lib.hid (HB.out.trans (kz.mono HB.out.size))
          clear kz
          have Nx := Lib.hid (nd_take NN.out hk3)
          obtain ⟨XA, hs1, tA⟩ := run_nums_tail A m c kx hk3 NN.out.kc NN.out.km
          obtain ⟨XB, hs2, tB⟩ := run_nums_tail B m d kx hk3 NN.out.vc NN.out.vm
          have TA := Lib.hid tA
          have TB := Lib.hid tB
          clear tA tB
          go_upto_region 15 with (fail)
          refine Inv2.wp_region_inv (fun b a wy => ∃ (z : Nat → Value) (z15 : Value), a = ⟨(List.toArray (Value.agg #[Value.bool l, Value.slice A m c, Value.slice B m d] :: Value.int IntKind.u8 ↑ax.toNat :: Value.pointer (some ⟨w.heap.size, 0, none⟩) :: undef :: Value.bool false :: Value.map (some bm) :: Value.bool true :: Value.pointer (some ⟨ru, 0, none⟩) :: Value.pointer (some ⟨rv, 0, none⟩) :: Value.int IntKind.i64 0 :: Value.int IntKind.i64 ((hf : Int) - ↑(m - hf)) :: Value.slice (some ⟨gq, 0, none⟩) 1 1 :: Value.int IntKind.i64 0 :: Value.int IntKind.i64 (kx : Int) :: Value.pointer (some ⟨rx, 0, none⟩) :: z15 :: undef :: undef :: undef :: undef :: Value.tuple #[Value.map (some bm), Value.bool true] :: Value.agg #[Value.bool l, Value.slice A m c, Value.slice B m d] :: Value.tuple #[Value.map (some bm), Value.bool true] :: Value.map (some bm) :: Value.bool true :: Value.bool true :: Value.bool false :: undef :: Value.tuple #[Value.agg #[Value.bool l, Value.slice Au hf cu, Value.slice Bu hf du], Value.agg #[Value.bool l, Value.slice Av (m - hf) cv, Value.slice Bv (m - hf) dv], Value.int IntKind.i64 0] :: Value.agg #[Value.bool l, Value.slice A m c, Value.slice B m d] :: Value.tuple #[Value.agg #[Value.bool l, Value.slice Au hf cu, Value.slice Bu hf du], Value.agg #[Value.bool l, Value.slice Av (m - hf) cv, Value.slice Bv (m - hf) dv], Value.int IntKind.i64 0] :: Value.agg #[Value.bool l, Value.slice Au hf cu, Value.slice Bu hf du] :: Value.agg #[Value.bool l, Value.slice Av (m - hf) cv, Value.slice Bv (m - hf) dv] :: Value.int IntKind.i64 0 :: Value.pointer (some ⟨w.heap.size, 1, none⟩) :: Value.slice A m c :: Value.int IntKind.i64 (m : Int) :: Value.bool false :: undef :: undef :: undef :: undef :: undef :: undef :: undef :: undef :: undef :: undef :: undef :: undef :: undef :: undef :: undef :: Value.pointer (some ⟨ru, 1, none⟩) :: Value.slice Au hf cu :: Value.int IntKind.i64 (hf : Int) :: Value.pointer (some ⟨rv, 1, none⟩) :: Value.slice Av (m - hf) cv :: Value.int IntKind.i64 ↑(m - hf) :: Value.int IntKind.i64 ((hf : Int) - ↑(m - hf)) :: Value.int IntKind.i64 0 :: Value.bool false :: Value.bool false :: Value.int IntKind.i64 ((hf : Int) - ↑(m - hf)) :: Value.bool false :: Value.bool false :: Value.bool false :: Value.int IntKind.i64 ((hf : Int) - ↑(m - hf)) :: Value.bool false :: Value.bool false :: Value.tuple #[Value.slice (some ⟨gq, 0, none⟩) 1 1, Value.int IntKind.i64 0] :: Value.agg #[Value.bool l, Value.slice Au hf cu, Value.slice Bu hf du] :: Value.agg #[Value.bool l, Value.slice Av (m - hf) cv, Value.slice Bv (m - hf) dv] :: Value.tuple #[Value.slice (some ⟨gq, 0, none⟩) 1 1, Value.int IntKind.i64 0] :: Value.slice (some ⟨gq, 0, none⟩) 1 1 :: Value.int IntKind.i64 0 :: Value.int IntKind.i64 0 :: Value.bool false :: Value.bool false :: Value.slice (some ⟨gq, 0, none⟩) 1 1 :: Value.int IntKind.i64 1 :: Value.bool false :: Value.bool false :: Value.bool false :: Value.slice (some ⟨gq, 0, none⟩) 1 1 :: Value.pointer (some ⟨gq, 0, none⟩) :: Value.agg #[Value.bool l, Value.slice Aq m cq, Value.slice Bq m dq] :: Value.agg #[Value.bool l, Value.slice A m c, Value.slice B m d] :: Value.bool true :: Value.bool false :: Value.bool false :: Value.int IntKind.u8 ↑ax.toNat :: Value.int IntKind.i64 (wrap64 ↑ax.toNat) :: Value.pointer (some ⟨w.heap.size, 1, none⟩) :: Value.slice A m c :: Value.int IntKind.i64 (m : Int) :: Value.int IntKind.i64 ((m : Int) - 1) :: Value.int IntKind.i64 ((wrap64 ↑ax.toNat).tmod ((m : Int) - 1)) :: Value.int IntKind.i64 (kx : Int) :: Value.pointer (some ⟨w.heap.size, 0, none⟩) :: Value.bool l :: Value.pointer (some ⟨w.heap.size, 1, none⟩) :: Value.slice A m c :: Value.int IntKind.i64 (kx : Int) :: Value.slice A kx c :: Value.pointer (some ⟨w.heap.size, 2, none⟩) :: Value.slice B m d :: Value.int IntKind.i64 (kx : Int) :: Value.slice B kx d :: Value.agg #[Value.bool l, Value.slice A kx c, Value.slice B kx d] :: (z 110) :: (z 111) :: (z 112) :: (z 113) :: (z 114) :: (z 115) :: (z 116) :: (z 117) :: (z 118) :: (z 119) :: (z 120) :: undef :: undef :: undef :: undef :: undef :: undef :: undef :: undef :: undef :: undef :: undef :: undef :: undef :: undef :: undef :: undef :: undef :: undef :: undef :: undef :: undef :: undef :: undef :: undef :: undef :: undef :: undef :: undef :: undef :: undef :: undef :: undef :: undef :: undef :: undef :: undef :: undef :: undef :: undef :: undef :: undef :: [])), []⟩ ∧ Hid ((b 0 = true → (z 110) = .pointer (some ⟨w.heap.size, 0, none⟩)) ∧ (b 1 = true → (z 111) = .bool l) ∧ (b 2 = true → (z 112) = .pointer (some ⟨w.heap.size, 1, none⟩)) ∧ (b 3 = true → (z 113) = .slice A m c) ∧ (b 4 = true → (z 114) = Value.int IntKind.i64 (kx : Int)) ∧ (b 5 = true → (z 115) = .slice XA (m - kx) (c - kx)) ∧ (b 6 = true → (z 116) = .pointer (some ⟨w.heap.size, 2, none⟩)) ∧ (b 7 = true → (z 117) = .slice B m d) ∧ (b 8 = true → (z 118) = Value.int IntKind.i64 (kx : Int)) ∧ (b 9 = true → (z 119) = .slice XB (m - kx) (d - kx)) ∧ (b 10 = true → (z 120) = .agg #[.bool l, .slice XA (m - kx) (c - kx), .slice XB (m - kx) (d - kx)])) ∧ Hid (Below w7.heap.size w7 wy) ∧ Hid ((b 11 = true → b 12 = false → ∃ r, z15 = .pointer (some ⟨r, 0, none⟩) ∧ w7.heap.size ≤ r ∧ RowV wy r 24 [.bool false, .slice none 0 0, .slice none 0 0]) ∧ (b 12 = true → b 11 = true ∧ ∃ r, z15 = .pointer (some ⟨r, 0, none⟩) ∧ w7.heap.size ≤ r ∧ RowV wy r 24 [.bool l, .slice XA (m - kx) (c - kx), .slice XB (m - kx) (d - kx)]))) (by kernel_rfl) (by kernel_rfl) ?startT ?stepsT ?doneT
          case startT =>
            intro b hb
            refine ⟨fun s => undef, undef, rfl, Lib.hid ⟨?_, ?_, ?_, ?_, ?_, ?_, ?_, ?_, ?_, ?_, ?_⟩, Lib.hid ((show Still w7 w7.drew from ⟨rfl, rfl, rfl, rfl⟩).below _), Lib.hid (⟨(fun e => by rw [hb _ (by decide)] at e; cases e), (fun e => by rw [hb _ (by decide)] at e; cases e)⟩)⟩
            all_goals (intro e; first | rfl | (rw [hb _ (by decide)] at e; cases e))
          case stepsT =>
            refine ⟨?_, ?_, ?_, ?_, ?_, ?_, ?_, ?_, ?_, ?_, ?_, ?_, ?_, trivial⟩
            · rintro b a wy hb hd ⟨z, z15, rfl, HV, HW, HX⟩ K hK
              clear hd
              go_simp
              have V := HV.out
              exact hK _ _ ⟨fun s => if s = 110 then .pointer (some ⟨w.heap.size, 0, none⟩) else z s, _, rfl, Lib.hid ⟨fun _ => rfl, V.2.1, V.2.2.1, V.2.2.2.1, V.2.2.2.2.1, V.2.2.2.2.2.1, V.2.2.2.2.2.2.1, V.2.2.2.2.2.2.2.1, V.2.2.2.2.2.2.2.2.1, V.2.2.2.2.2.2.2.2.2.1, V.2.2.2.2.2.2.2.2.2.2⟩, HW, HX⟩
            · rintro b a wy hb hd ⟨z, z15, rfl, HV, HW, HX⟩ K hK
              simp [Region.binds] at hd
              have e0 : (z 110) = .pointer (some ⟨w.heap.size, 0, none⟩) := (HV.out.1) (by simp [hd])
              clear hd
              have hbx := (XN.out.below XN.out.lt HW.out).of.cellAt (i := 0) rfl
              go_simp
              have V := HV.out
              exact hK _ _ ⟨fun s => if s = 111 then .bool l else if s = 110 then .pointer (some ⟨w.heap.size, 0, none⟩) else z s, _, rfl, Lib.hid ⟨fun _ => rfl, fun _ => rfl, V.2.2.1, V.2.2.2.1, V.2.2.2.2.1, V.2.2.2.2.2.1, V.2.2.2.2.2.2.1, V.2.2.2.2.2.2.2.1, V.2.2.2.2.2.2.2.2.1, V.2.2.2.2.2.2.2.2.2.1, V.2.2.2.2.2.2.2.2.2.2⟩, HW, HX⟩
            · rintro b a wy hb hd ⟨z, z15, rfl, HV, HW, HX⟩ K hK
              clear hd
              go_simp
              have V := HV.out
              exact hK _ _ ⟨fun s => if s = 112 then .pointer (some ⟨w.heap.size, 1, none⟩) else z s, _, rfl, Lib.hid ⟨V.1, V.2.1, fun _ => rfl, V.2.2.2.1, V.2.2.2.2.1, V.2.2.2.2.2.1, V.2.2.2.2.2.2.1, V.2.2.2.2.2.2.2.1, V.2.2.2.2.2.2.2.2.1, V.2.2.2.2.2.2.2.2.2.1, V.2.2.2.2.2.2.2.2.2.2⟩, HW, HX⟩
            · rintro b a wy hb hd ⟨z, z15, rfl, HV, HW, HX⟩ K hK
              simp [Region.binds] at hd
              have e2 : (z 112) = .pointer (some ⟨w.heap.size, 1, none⟩) := (HV.out.2.2.1) (by simp [hd])
              clear hd
              have hbx := (XN.out.below XN.out.lt HW.out).of.cellAt (i := 1) rfl
              go_simp
              have V := HV.out
              exact hK _ _ ⟨fun s => if s = 113 then .slice A m c else if s = 112 then .pointer (some ⟨w.heap.size, 1, none⟩) else z s, _, rfl, Lib.hid ⟨V.1, V.2.1, fun _ => rfl, fun _ => rfl, V.2.2.2.2.1, V.2.2.2.2.2.1, V.2.2.2.2.2.2.1, V.2.2.2.2.2.2.2.1, V.2.2.2.2.2.2.2.2.1, V.2.2.2.2.2.2.2.2.2.1, V.2.2.2.2.2.2.2.2.2.2⟩, HW, HX⟩
            · rintro b a wy hb hd ⟨z, z15, rfl, HV, HW, HX⟩ K hK
              clear hd
              go_simp
              have V := HV.out
              exact hK _ _ ⟨fun s => if s = 114 then Value.int IntKind.i64 (kx : Int) else z s, _, rfl, Lib.hid ⟨V.1, V.2.1, V.2.2.1, V.2.2.2.1, fun _ => rfl, V.2.2.2.2.2.1, V.2.2.2.2.2.2.1, V.2.2.2.2.2.2.2.1, V.2.2.2.2.2.2.2.2.1, V.2.2.2.2.2.2.2.2.2.1, V.2.2.2.2.2.2.2.2.2.2⟩, HW, HX⟩
            · rintro b a wy hb hd ⟨z, z15, rfl, HV, HW, HX⟩ K hK
              simp [Region.binds] at hd
              have e3 : (z 113) = .slice A m c := (HV.out.2.2.2.1) (by simp [hd])
              have e4 : (z 114) = Value.int IntKind.i64 (kx : Int) := (HV.out.2.2.2.2.1) (by simp [hd])
              clear hd
              go_simp
              have V := HV.out
              exact hK _ _ ⟨fun s => if s = 115 then .slice XA (m - kx) (c - kx) else if s = 113 then .slice A m c else if s = 114 then Value.int IntKind.i64 (kx : Int) else z s, _, rfl, Lib.hid ⟨V.1, V.2.1, V.2.2.1, fun _ => rfl, fun _ => rfl, fun _ => rfl, V.2.2.2.2.2.2.1, V.2.2.2.2.2.2.2.1, V.2.2.2.2.2.2.2.2.1, V.2.2.2.2.2.2.2.2.2.1, V.2.2.2.2.2.2.2.2.2.2⟩, HW, HX⟩
            · rintro b a wy hb hd ⟨z, z15, rfl, HV, HW, HX⟩ K hK
              clear hd
              go_simp
              have V := HV.out
              exact hK _ _ ⟨fun s => if s = 116 then .pointer (some ⟨w.heap.size, 2, none⟩) else z s, _, rfl, Lib.hid ⟨V.1, V.2.1, V.2.2.1, V.2.2.2.1, V.2.2.2.2.1, V.2.2.2.2.2.1, fun _ => rfl, V.2.2.2.2.2.2.2.1, V.2.2.2.2.2.2.2.2.1, V.2.2.2.2.2.2.2.2.2.1, V.2.2.2.2.2.2.2.2.2.2⟩, HW, HX⟩
            · rintro b a wy hb hd ⟨z, z15, rfl, HV, HW, HX⟩ K hK
              simp [Region.binds] at hd
              have e6 : (z 116) = .pointer (some ⟨w.heap.size, 2, none⟩) := (HV.out.2.2.2.2.2.2.1) (by simp [hd])
              clear hd
              have hbx := (XN.out.below XN.out.lt HW.out).of.cellAt (i := 2) rfl
              go_simp
              have V := HV.out
              exact hK _ _ ⟨fun s => if s = 117 then .slice B m d else if s = 116 then .pointer (some ⟨w.heap.size, 2, none⟩) else z s, _, rfl, Lib.hid ⟨V.1, V.2.1, V.2.2.1, V.2.2.2.1, V.2.2.2.2.1, V.2.2.2.2.2.1, fun _ => rfl, fun _ => rfl, V.2.2.2.2.2.2.2.2.1, V.2.2.2.2.2.2.2.2.2.1, V.2.2.2.2.2.2.2.2.2.2⟩, HW, HX⟩
            · rintro b a wy hb hd ⟨z, z15, rfl, HV, HW, HX⟩ K hK
              clear hd
              go_simp
              have V := HV.out
              exact hK _ _ ⟨fun s => if s = 118 then Value.int IntKind.i64 (kx : Int) else z s, _, rfl, Lib.hid ⟨V.1, V.2.1, V.2.2.1, V.2.2.2.1, V.2.2.2.2.1, V.2.2.2.2.2.1, V.2.2.2.2.2.2.1, V.2.2.2.2.2.2.2.1, fun _ => rfl, V.2.2.2.2.2.2.2.2.2.1, V.2.2.2.2.2.2.2.2.2.2⟩, HW, HX⟩
            · rintro b a wy hb hd ⟨z, z15, rfl, HV, HW, HX⟩ K hK
              simp [Region.binds] at hd
              have e7 : (z 117) = .slice B m d := (HV.out.2.2.2.2.2.2.2.1) (by simp [hd])
              have e8 : (z 118) = Value.int IntKind.i64 (kx : Int) := (HV.out.2.2.2.2.2.2.2.2.1) (by simp [hd])
              clear hd
              go_simp
              have V := HV.out
              exact hK _ _ ⟨fun s => if s = 119 then .slice XB (m - kx) (d - kx) else if s = 117 then .slice B m d else if s = 118 then Value.int IntKind.i64 (kx : Int) else z s, _, rfl, Lib.hid ⟨V.1, V.2.1, V.2.2.1, V.2.2.2.1, V.2.2.2.2.1, V.2.2.2.2.2.1, V.2.2.2.2.2.2.1, fun _ => rfl, fun _ => rfl, fun _ => rfl, V.2.2.2.2.2.2.2.2.2.2⟩, HW, HX⟩
            · rintro b a wy hb hd ⟨z, z15, rfl, HV, HW, HX⟩ K hK
              simp [Region.binds] at hd
              have e1 : (z 111) = .bool l := (HV.out.2.1) (by simp [hd])
              have e5 : (z 115) = .slice XA (m - kx) (c - kx) := (HV.out.2.2.2.2.2.1) (by simp [hd])
              have e9 : (z 119) = .slice XB (m - kx) (d - kx) := (HV.out.2.2.2.2.2.2.2.2.2.1) (by simp [hd])
              clear hd
              rw [e1]
              rw [e5]
              rw [e9]
              refine if_wanted (by rfl) (wp_build_as 24 #[(0, .tmp 111), (1, .tmp 115), (2, .tmp 119)] rfl #[.bool l, .slice XA (m - kx) (c - kx), .slice XB (m - kx) (d - kx)] (by simp [Act.eval]; exact node_built l _ _ _ _ _ _) ?_)
              have V := HV.out
              exact hK _ _ ⟨fun s => if s = 120 then .agg #[.bool l, .slice XA (m - kx) (c - kx), .slice XB (m - kx) (d - kx)] else if s = 111 then .bool l else if s = 115 then .slice XA (m - kx) (c - kx) else if s = 119 then .slice XB (m - kx) (d - kx) else z s, _, rfl, Lib.hid ⟨V.1, fun _ => rfl, V.2.2.1, V.2.2.2.1, V.2.2.2.2.1, fun _ => rfl, V.2.2.2.2.2.2.1, V.2.2.2.2.2.2.2.1, V.2.2.2.2.2.2.2.2.1, fun _ => rfl, fun _ => rfl⟩, HW, HX⟩
            · rintro b a wy hb hd ⟨z, z15, rfl, HV, HW, HX⟩ K hK
              clear hd
              obtain ⟨x1, x2⟩ := HX.out
              have b12 : b 12 = false := by
                  rcases Bool.eq_false_or_eq_true (b 12) with e | e
                  · exact absurd (hb.symm.trans (x2 e).1) (by decide)
                  · exact e
              have kz := (Below.refl wy.heap.size wy).alloc (Nat.le_refl _) (.cells #[.bool false, .slice none 0 0, .slice none 0 0] 24)
              have LN := alloc_rowV wy 24 [.bool false, .slice none 0 0, .slice none 0 0]
              go_simp
              have V := HV.out
              exact hK _ _ ⟨fun s => z s, _, rfl, Lib.hid ⟨V.1, V.2.1, V.2.2.1, V.2.2.2.1, V.2.2.2.2.1, V.2.2.2.2.2.1, V.2.2.2.2.2.2.1, V.2.2.2.2.2.2.2.1, V.2.2.2.2.2.2.2.2.1, V.2.2.2.2.2.2.2.2.2.1, V.2.2.2.2.2.2.2.2.2.2⟩, Lib.hid (HW.out.trans (kz.mono HW.out.size)), Lib.hid ⟨fun _ _ => ⟨_, rfl, HW.out.size, LN⟩, fun e => absurd (b12.symm.trans e) (by decide)⟩⟩
            · rintro b a wy hb hd ⟨z, z15, rfl, HV, HW, HX⟩ K hK
              simp [Region.binds] at hd
              have dd11 : b 11 = true := by simp [hd]
              have e10 : (z 120) = .agg #[.bool l, .slice XA (m - kx) (c - kx), .slice XB (m - kx) (d - kx)] := (HV.out.2.2.2.2.2.2.2.2.2.2) (by simp [hd])
              clear hd
              obtain ⟨x1, x2⟩ := HX.out
              obtain ⟨r, zz, g1, g5⟩ := x1 dd11 hb
              subst zz
              rw [e10]
              refine if_wanted (by rfl) (wp_store_row 24 (.tmp 15) (.tmp 120) rfl r #[.bool l, .slice XA (m - kx) (c - kx), .slice XB (m - kx) (d - kx)] rfl rfl _ _ g5 node_size rfl (ones l rfl rfl) ?_)
              have V := HV.out
              exact hK _ _ ⟨fun s => if s = 120 then .agg #[.bool l, .slice XA (m - kx) (c - kx), .slice XB (m - kx) (d - kx)] else z s, _, rfl, Lib.hid ⟨V.1, V.2.1, V.2.2.1, V.2.2.2.1, V.2.2.2.2.1, V.2.2.2.2.2.1, V.2.2.2.2.2.2.1, V.2.2.2.2.2.2.2.1, V.2.2.2.2.2.2.2.2.1, V.2.2.2.2.2.2.2.2.2.1, fun _ => rfl⟩, Lib.hid (HW.out.trans (row_below _ g1)), Lib.hid ⟨fun _ e => (by cases e), fun _ => ⟨dd11, r, rfl, g1, row_set g5⟩⟩⟩
          case doneT =>
            rintro b a w8 hb ⟨z, z15, rfl, HV, HW, HX⟩
            have e0 := (HV.out.1) (hb 0)
            have e1 := (HV.out.2.1) (hb 1)
            have e2 := (HV.out.2.2.1) (hb 2)
            have e3 := (HV.out.2.2.2.1) (hb 3)
            have e4 := (HV.out.2.2.2.2.1) (hb 4)
            have e5 := (HV.out.2.2.2.2.2.1) (hb 5)
            have e6 := (HV.out.2.2.2.2.2.2.1) (hb 6)
            have e7 := (HV.out.2.2.2.2.2.2.2.1) (hb 7)
            have e8 := (HV.out.2.2.2.2.2.2.2.2.1) (hb 8)
            have e9 := (HV.out.2.2.2.2.2.2.2.2.2.1) (hb 9)
            have e10 := (HV.out.2.2.2.2.2.2.2.2.2.2) (hb 10)
            simp only [e0, e1, e2, e3, e4, e5, e6, e7, e8, e9, e10]
            clear HV e0 e1 e2 e3 e4 e5 e6 e7 e8 e9 e10
            obtain ⟨_, x2⟩ := HX.out
            obtain ⟨_, ry, zz, _, g5⟩ := x2 (hb 12)
            subst zz
            have Xy := Lib.hid (row_d g5)
            have kz := HW.out
            clear HX HW hb x2 g5 hs1 hs2
            replace XN := Lib.hid (XN.out.below XN.out.lt kz)
            replace NN := Lib.hid (NN.out.below kz)
            replace MM := Lib.hid (MM.out.far kz)
            replace Xx := Lib.hid (Xx.out.below Xx.out.lt kz)
            replace Nx := Lib.hid (Nx.out.below kz)
            replace HB := Lib.hid (HB.out.trans (kz.mono HB.out.size))
            clear kz
            have Ny := Lib.hid (show Nd w8 XA (m - kx) (c - kx) XB (m - kx) (d - kx) (ks.drop kx) (vs.drop kx) from ⟨by rw [List.length_drop, kl], by rw [List.length_drop, NN.out.vl], by have := NN.out.kc; omega, by have := NN.out.km; omega, by have := NN.out.vc; omega, by have := NN.out.vm; omega, TA.out _ ks kl NN.out.ks, TB.out _ vs NN.out.vl NN.out.vs⟩)
            go_wp2_with (first | (refine wpList_load_d rfl (.tmp 14) rfl rx _ rfl Xx.out ?_) | (refine wpList_load_d rfl (.tmp 15) rfl ry _ rfl Xy.out ?_))
            refine (join_any l l Nx.out Ny.out _ (joinR_parts HK.out hk1 hk2).symm).mono ?_
            rintro e w9 ⟨q, rfl, Lq, kz⟩
            replace XN := Lib.hid (XN.out.below XN.out.lt kz)
            replace NN := Lib.hid (NN.out.below kz)
            replace MM := Lib.hid (MM.out.far kz)
            replace Xx := Lib.hid (Xx.out.below Xx.out.lt kz)
            replace Nx := Lib.hid (Nx.out.below kz)
            replace Xy := Lib.hid (Xy.out.below Xy.out.lt kz)
            replace Ny := Lib.hid (Ny.out.below kz)
            replace HB := Lib.hid (HB.out.trans (kz.mono HB.out.size))
            clear kz
            obtain ⟨gr, Ar, cr, Br, dr, rfl, Rq, Nq⟩ := Lq.one kl NN.out.vl
            replace Rq := Lib.hid Rq
            replace Nq := Lib.hid Nq
            clear Lq
            go_wp2_with (first | (refine wpList_load_d rfl (.tmp 14) rfl rx _ rfl Xx.out ?_) | (refine wpList_load_d rfl (.tmp 15) rfl ry _ rfl Xy.out ?_))
            refine (join_any l l Ny.out Nx.out _ (joinR_turned HK.out hk1 hk2).symm).mono ?_
            rintro e w10 ⟨q, rfl, _, kz⟩
            replace XN := Lib.hid (XN.out.below XN.out.lt kz)
            replace NN := Lib.hid (NN.out.below kz)
            replace MM := Lib.hid (MM.out.far kz)
            replace Xx := Lib.hid (Xx.out.below Xx.out.lt kz)
            replace Nx := Lib.hid (Nx.out.below kz)
            replace Xy := Lib.hid (Xy.out.below Xy.out.lt kz)
            replace Ny := Lib.hid (Ny.out.below kz)
            replace Rq := Lib.hid (Rq.out.below Rq.out.lt kz)
            replace Nq := Lib.hid (Nq.out.below kz)
            replace HB := Lib.hid (HB.out.trans (kz.mono HB.out.size))
            clear kz
            clear Xx Xy Nx Ny
            go_upto_region 18 with (fail)
            refine Inv2.wp_region_inv (fun b a wy => ∃ (z : Nat → Value), a = ⟨(List.toArray (Value.agg #[Value.bool l, Value.slice A m c, Value.slice B m d] :: Value.int IntKind.u8 ↑ax.toNat :: Value.pointer (some ⟨w.heap.size, 0, none⟩) :: undef :: (z 4) :: Value.map (some bm) :: Value.bool true :: Value.pointer (some ⟨ru, 0, none⟩) :: Value.pointer (some ⟨rv, 0, none⟩) :: Value.int IntKind.i64 0 :: Value.int IntKind.i64 ((hf : Int) - ↑(m - hf)) :: Value.slice (some ⟨gq, 0, none⟩) 1 1 :: Value.int IntKind.i64 0 :: Value.int IntKind.i64 (kx : Int) :: Value.pointer (some ⟨rx, 0, none⟩) :: Value.pointer (some ⟨ry, 0, none⟩) :: Value.slice (some ⟨gr, 0, none⟩) 1 1 :: Value.int IntKind.i64 0 :: q :: Value.int IntKind.i64 30 :: Value.tuple #[Value.map (some bm), Value.bool true] :: Value.agg #[Value.bool l, Value.slice A m c, Value.slice B m d] :: Value.tuple #[Value.map (some bm), Value.bool true] :: Value.map (some bm) :: Value.bool true :: Value.bool true :: Value.bool false :: undef :: Value.tuple #[Value.agg #[Value.bool l, Value.slice Au hf cu, Value.slice Bu hf du], Value.agg #[Value.bool l, Value.slice Av (m - hf) cv, Value.slice Bv (m - hf) dv], Value.int IntKind.i64 0] :: Value.agg #[Value.bool l, Value.slice A m c, Value.slice B m d] :: Value.tuple #[Value.agg #[Value.bool l, Value.slice Au hf cu, Value.slice Bu hf du], Value.agg #[Value.bool l, Value.slice Av (m - hf) cv, Value.slice Bv (m - hf) dv], Value.int IntKind.i64 0] :: Value.agg #[Value.bool l, Value.slice Au hf cu, Value.slice Bu hf du] :: Value.agg #[Value.bool l, Value.slice Av (m - hf) cv, Value.slice Bv (m - hf) dv] :: Value.int IntKind.i64 0 :: Value.pointer (some ⟨w.heap.size, 1, none⟩) :: Value.slice A m c :: Value.int IntKind.i64 (m : Int) :: Value.bool false :: undef :: undef :: undef :: undef :: undef :: undef :: undef :: undef :: undef :: undef :: undef :: undef :: undef :: undef :: undef :: Value.pointer (some ⟨ru, 1, none⟩) :: Value.slice Au hf cu :: Value.int IntKind.i64 (hf : Int) :: Value.pointer (some ⟨rv, 1, none⟩) :: Value.slice Av (m - hf) cv :: Value.int IntKind.i64 ↑(m - hf) :: Value.int IntKind.i64 ((hf : Int) - ↑(m - hf)) :: Value.int IntKind.i64 0 :: Value.bool false :: Value.bool false :: Value.int IntKind.i64 ((hf : Int) - ↑(m - hf)) :: Value.bool false :: Value.bool false :: Value.bool false :: Value.int IntKind.i64 ((hf : Int) - ↑(m - hf)) :: Value.bool false :: Value.bool false :: Value.tuple #[Value.slice (some ⟨gq, 0, none⟩) 1 1, Value.int IntKind.i64 0] :: Value.agg #[Value.bool l, Value.slice Au hf cu, Value.slice Bu hf du] :: Value.agg #[Value.bool l, Value.slice Av (m - hf) cv, Value.slice Bv (m - hf) dv] :: Value.tuple #[Value.slice (some ⟨gq, 0, none⟩) 1 1, Value.int IntKind.i64 0] :: Value.slice (some ⟨gq, 0, none⟩) 1 1 :: Value.int IntKind.i64 0 :: Value.int IntKind.i64 0 :: Value.bool false :: Value.bool false :: Value.slice (some ⟨gq, 0, none⟩) 1 1 :: Value.int IntKind.i64 1 :: Value.bool false :: Value.bool false :: Value.bool false :: Value.slice (some ⟨gq, 0, none⟩) 1 1 :: Value.pointer (some ⟨gq, 0, none⟩) :: Value.agg #[Value.bool l, Value.slice Aq m cq, Value.slice Bq m dq] :: Value.agg #[Value.bool l, Value.slice A m c, Value.slice B m d] :: Value.bool true :: Value.bool false :: Value.bool false :: Value.int IntKind.u8 ↑ax.toNat :: Value.int IntKind.i64 (wrap64 ↑ax.toNat) :: Value.pointer (some ⟨w.heap.size, 1, none⟩) :: Value.slice A m c :: Value.int IntKind.i64 (m : Int) :: Value.int IntKind.i64 ((m : Int) - 1) :: Value.int IntKind.i64 ((wrap64 ↑ax.toNat).tmod ((m : Int) - 1)) :: Value.int IntKind.i64 (kx : Int) :: Value.pointer (some ⟨w.heap.size, 0, none⟩) :: Value.bool l :: Value.pointer (some ⟨w.heap.size, 1, none⟩) :: Value.slice A m c :: Value.int IntKind.i64 (kx : Int) :: Value.slice A kx c :: Value.pointer (some ⟨w.heap.size, 2, none⟩) :: Value.slice B m d :: Value.int IntKind.i64 (kx : Int) :: Value.slice B kx d :: Value.agg #[Value.bool l, Value.slice A kx c, Value.slice B kx d] :: Value.pointer (some ⟨w.heap.size, 0, none⟩) :: Value.bool l :: Value.pointer (some ⟨w.heap.size, 1, none⟩) :: Value.slice A m c :: Value.int IntKind.i64 (kx : Int) :: Value.slice XA (m - kx) (c - kx) :: Value.pointer (some ⟨w.heap.size, 2, none⟩) :: Value.slice B m d :: Value.int IntKind.i64 (kx : Int) :: Value.slice XB (m - kx) (d - kx) :: Value.agg #[Value.bool l, Value.slice XA (m - kx) (c - kx), Value.slice XB (m - kx) (d - kx)] :: Value.tuple #[Value.slice (some ⟨gr, 0, none⟩) 1 1, Value.int IntKind.i64 0] :: Value.agg #[Value.bool l, Value.slice A kx c, Value.slice B kx d] :: Value.agg #[Value.bool l, Value.slice XA (m - kx) (c - kx), Value.slice XB (m - kx) (d - kx)] :: Value.tuple #[Value.slice (some ⟨gr, 0, none⟩) 1 1, Value.int IntKind.i64 0] :: Value.slice (some ⟨gr, 0, none⟩) 1 1 :: Value.int IntKind.i64 0 :: Value.tuple #[q, Value.int IntKind.i64 30] :: Value.agg #[Value.bool l, Value.slice XA (m - kx) (c - kx), Value.slice XB (m - kx) (d - kx)] :: Value.agg #[Value.bool l, Value.slice A kx c, Value.slice B kx d] :: Value.tuple #[q, Value.int IntKind.i64 30] :: q :: Value.int IntKind.i64 30 :: (z 133) :: (z 134) :: (z 135) :: (z 136) :: (z 137) :: (z 138) :: (z 139) :: (z 140) :: (z 141) :: (z 142) :: (z 143) :: (z 144) :: (z 145) :: (z 146) :: (z 147) :: (z 148) :: (z 149) :: (z 150) :: (z 151) :: (z 152) :: (z 153) :: (z 154) :: (z 155) :: (z 156) :: (z 157) :: (z 158) :: (z 159) :: (z 160) :: (z 161) :: [])), []⟩ ∧ Hid ((b 0 = true → (z 133) = Value.int IntKind.i64 0) ∧ (b 1 = true → (z 134) = .bool true) ∧ (b 2 = true → (z 135) = .bool true) ∧ (b 3 = true → (z 136) = Value.slice (some ⟨gr, 0, none⟩) 1 1) ∧ (b 4 = true → (z 137) = .int .i64 1) ∧ (b 5 = true → (z 138) = .bool true) ∧ (b 6 = true → (z 139) = .bool true) ∧ (b 7 = true → (z 140) = .bool true) ∧ (b 8 = true → (z 141) = Value.slice (some ⟨gr, 0, none⟩) 1 1) ∧ (b 9 = true → (z 142) = .pointer (some ⟨gr, 0, none⟩)) ∧ (b 10 = true → (z 143) = .agg #[.bool l, .slice Ar m cr, .slice Br m dr]) ∧ (b 11 = true → (z 144) = .agg #[.bool l, .slice A m c, .slice B m d]) ∧ (b 12 = true → (z 145) = .bool true) ∧ (b 13 = true → (z 146) = .bool true) ∧ (b 14 = true → (z 147) = .bool true) ∧ (b 15 = true → (z 148) = Value.int IntKind.i64 30) ∧ (b 16 = true → (z 149) = .bool true) ∧ (b 17 = true → (z 150) = .bool true) ∧ (b 18 = true → (z 151) = .bool true) ∧ (b 19 = true → (z 152) = Value.map (some bm)) ∧ (b 20 = true → (z 153) = .int .i64 (m : Int)) ∧ (b 21 = true → (z 154) = .pointer (some ⟨w.heap.size, 1, none⟩)) ∧ (b 22 = true → (z 155) = .slice A m c) ∧ (b 23 = true → (z 156) = .int .i64 (m : Int)) ∧ (b 24 = true → (z 157) = .bool true) ∧ (b 25 = true → (z 158) = .bool true) ∧ (b 26 = true → (z 159) = .bool true) ∧ (b 27 = true → (z 160) = .bool true) ∧ (b 28 = true → (z 161) = .bool true) ∧ (b 29 = true → (z 4) = .bool true)) ∧ Hid (Below w10.heap.size w10 wy)) (by kernel_rfl) (by kernel_rfl) ?startU ?stepsU ?doneU
            case startU =>
              intro b hb
              refine ⟨fun s => if s = 4 then Value.bool false else undef, rfl, Lib.hid ⟨?_, ?_, ?_, ?_, ?_, ?_, ?_, ?_, ?_, ?_, ?_, ?_, ?_, ?_, ?_, ?_, ?_, ?_, ?_, ?_, ?_, ?_, ?_, ?_, ?_, ?_, ?_, ?_, ?_, ?_⟩, Lib.hid ((show Still w10 w10.drew from ⟨rfl, rfl, rfl, rfl⟩).below _)⟩
              all_goals (intro e; first | rfl | (rw [hb _ (by decide)] at e; cases e))
            case stepsU =>
              refine ⟨?_, ?_, ?_, ?_, ?_, ?_, ?_, ?_, ?_, ?_, ?_, ?_, ?_, ?_, ?_, ?_, ?_, ?_, ?_, ?_, ?_, ?_, ?_, ?_, ?_, ?_, ?_, ?_, ?_, ?_, trivial⟩
              · rintro b a wy hb hd ⟨z, rfl, HV, HW⟩ K hK
                clear hd
                go_simp
                have V := HV.out
                have V10 := V.2.2.2.2.2.2.2.2.2.2
                have V20 := V10.2.2.2.2.2.2.2.2.2.2
                exact hK _ _ ⟨fun s => if s = 133 then Value.int IntKind.i64 0 else z s, rfl, Lib.hid ⟨fun _ => rfl, V.2.1, V.2.2.1, V.2.2.2.1, V.2.2.2.2.1, V.2.2.2.2.2.1, V.2.2.2.2.2.2.1, V.2.2.2.2.2.2.2.1, V.2.2.2.2.2.2.2.2.1, V.2.2.2.2.2.2.2.2.2.1, V10.1, V10.2.1, V10.2.2.1, V10.2.2.2.1, V10.2.2.2.2.1, V10.2.2.2.2.2.1, V10.2.2.2.2.2.2.1, V10.2.2.2.2.2.2.2.1, V10.2.2.2.2.2.2.2.2.1, V10.2.2.2.2.2.2.2.2.2.1, V20.1, V20.2.1, V20.2.2.1, V20.2.2.2.1, V20.2.2.2.2.1, V20.2.2.2.2.2.1, V20.2.2.2.2.2.2.1, V20.2.2.2.2.2.2.2.1, V20.2.2.2.2.2.2.2.2.1, V20.2.2.2.2.2.2.2.2.2⟩, HW⟩
              · rintro b a wy hb hd ⟨z, rfl, HV, HW⟩ K hK
                simp [Region.binds] at hd
                have e0 : (z 133) = Value.int IntKind.i64 0 := (HV.out.1) (by simp [hd])
                clear hd
                go_simp
                have V := HV.out
                have V10 := V.2.2.2.2.2.2.2.2.2.2
                have V20 := V10.2.2.2.2.2.2.2.2.2.2
                exact hK _ _ ⟨fun s => if s = 134 then .bool true else if s = 133 then Value.int IntKind.i64 0 else z s, rfl, Lib.hid ⟨fun _ => rfl, fun _ => rfl, V.2.2.1, V.2.2.2.1, V.2.2.2.2.1, V.2.2.2.2.2.1, V.2.2.2.2.2.2.1, V.2.2.2.2.2.2.2.1, V.2.2.2.2.2.2.2.2.1, V.2.2.2.2.2.2.2.2.2.1, V10.1, V10.2.1, V10.2.2.1, V10.2.2.2.1, V10.2.2.2.2.1, V10.2.2.2.2.2.1, V10.2.2.2.2.2.2.1, V10.2.2.2.2.2.2.2.1, V10.2.2.2.2.2.2.2.2.1, V10.2.2.2.2.2.2.2.2.2.1, V20.1, V20.2.1, V20.2.2.1, V20.2.2.2.1, V20.2.2.2.2.1, V20.2.2.2.2.2.1, V20.2.2.2.2.2.2.1, V20.2.2.2.2.2.2.2.1, V20.2.2.2.2.2.2.2.2.1, V20.2.2.2.2.2.2.2.2.2⟩, HW⟩
              · rintro b a wy hb hd ⟨z, rfl, HV, HW⟩ K hK
                simp [Region.binds] at hd
                have e1 : (z 134) = .bool true := (HV.out.2.1) (by simp [hd])
                clear hd
                go_simp
                have V := HV.out
                have V10 := V.2.2.2.2.2.2.2.2.2.2
                have V20 := V10.2.2.2.2.2.2.2.2.2.2
                exact hK _ _ ⟨fun s => if s = 135 then .bool true else if s = 134 then .bool true else z s, rfl, Lib.hid ⟨V.1, fun _ => rfl, fun _ => rfl, V.2.2.2.1, V.2.2.2.2.1, V.2.2.2.2.2.1, V.2.2.2.2.2.2.1, V.2.2.2.2.2.2.2.1, V.2.2.2.2.2.2.2.2.1, V.2.2.2.2.2.2.2.2.2.1, V10.1, V10.2.1, V10.2.2.1, V10.2.2.2.1, V10.2.2.2.2.1, V10.2.2.2.2.2.1, V10.2.2.2.2.2.2.1, V10.2.2.2.2.2.2.2.1, V10.2.2.2.2.2.2.2.2.1, V10.2.2.2.2.2.2.2.2.2.1, V20.1, V20.2.1, V20.2.2.1, V20.2.2.2.1, V20.2.2.2.2.1, V20.2.2.2.2.2.1, V20.2.2.2.2.2.2.1, V20.2.2.2.2.2.2.2.1, V20.2.2.2.2.2.2.2.2.1, V20.2.2.2.2.2.2.2.2.2⟩, HW⟩
              · rintro b a wy hb hd ⟨z, rfl, HV, HW⟩ K hK
                simp [Region.binds] at hd
                have e2 : (z 135) = .bool true := (HV.out.2.2.1) (by simp [hd])
                clear hd
                go_simp
                have V := HV.out
                have V10 := V.2.2.2.2.2.2.2.2.2.2
                have V20 := V10.2.2.2.2.2.2.2.2.2.2
                exact hK _ _ ⟨fun s => if s = 136 then Value.slice (some ⟨gr, 0, none⟩) 1 1 else if s = 135 then .bool true else z s, rfl, Lib.hid ⟨V.1, V.2.1, fun _ => rfl, fun _ => rfl, V.2.2.2.2.1, V.2.2.2.2.2.1, V.2.2.2.2.2.2.1, V.2.2.2.2.2.2.2.1, V.2.2.2.2.2.2.2.2.1, V.2.2.2.2.2.2.2.2.2.1, V10.1, V10.2.1, V10.2.2.1, V10.2.2.2.1, V10.2.2.2.2.1, V10.2.2.2.2.2.1, V10.2.2.2.2.2.2.1, V10.2.2.2.2.2.2.2.1, V10.2.2.2.2.2.2.2.2.1, V10.2.2.2.2.2.2.2.2.2.1, V20.1, V20.2.1, V20.2.2.1, V20.2.2.2.1, V20.2.2.2.2.1, V20.2.2.2.2.2.1, V20.2.2.2.2.2.2.1, V20.2.2.2.2.2.2.2.1, V20.2.2.2.2.2.2.2.2.1, V20.2.2.2.2.2.2.2.2.2⟩, HW⟩
              · rintro b a wy hb hd ⟨z, rfl, HV, HW⟩ K hK
                simp [Region.binds] at hd
                have e2 : (z 135) = .bool true := (HV.out.2.2.1) (by simp [hd])
                have e3 : (z 136) = Value.slice (some ⟨gr, 0, none⟩) 1 1 := (HV.out.2.2.2.1) (by simp [hd])
                clear hd
                go_simp
                have V := HV.out
                have V10 := V.2.2.2.2.2.2.2.2.2.2
                have V20 := V10.2.2.2.2.2.2.2.2.2.2
                exact hK _ _ ⟨fun s => if s = 137 then .int .i64 1 else if s = 135 then .bool true else if s = 136 then Value.slice (some ⟨gr, 0, none⟩) 1 1 else z s, rfl, Lib.hid ⟨V.1, V.2.1, fun _ => rfl, fun _ => rfl, fun _ => rfl, V.2.2.2.2.2.1, V.2.2.2.2.2.2.1, V.2.2.2.2.2.2.2.1, V.2.2.2.2.2.2.2.2.1, V.2.2.2.2.2.2.2.2.2.1, V10.1, V10.2.1, V10.2.2.1, V10.2.2.2.1, V10.2.2.2.2.1, V10.2.2.2.2.2.1, V10.2.2.2.2.2.2.1, V10.2.2.2.2.2.2.2.1, V10.2.2.2.2.2.2.2.2.1, V10.2.2.2.2.2.2.2.2.2.1, V20.1, V20.2.1, V20.2.2.1, V20.2.2.2.1, V20.2.2.2.2.1, V20.2.2.2.2.2.1, V20.2.2.2.2.2.2.1, V20.2.2.2.2.2.2.2.1, V20.2.2.2.2.2.2.2.2.1, V20.2.2.2.2.2.2.2.2.2⟩, HW⟩
              · rintro b a wy hb hd ⟨z, rfl, HV, HW⟩ K hK
                simp [Region.binds] at hd
                have e2 : (z 135) = .bool true := (HV.out.2.2.1) (by simp [hd])
                have e4 : (z 137) = .int .i64 1 := (HV.out.2.2.2.2.1) (by simp [hd])
                clear hd
                go_simp
                have V := HV.out
                have V10 := V.2.2.2.2.2.2.2.2.2.2
                have V20 := V10.2.2.2.2.2.2.2.2.2.2
                exact hK _ _ ⟨fun s => if s = 138 then .bool true else if s = 135 then .bool true else if s = 137 then .int .i64 1 else z s, rfl, Lib.hid ⟨V.1, V.2.1, fun _ => rfl, V.2.2.2.1, fun _ => rfl, fun _ => rfl, V.2.2.2.2.2.2.1, V.2.2.2.2.2.2.2.1, V.2.2.2.2.2.2.2.2.1, V.2.2.2.2.2.2.2.2.2.1, V10.1, V10.2.1, V10.2.2.1, V10.2.2.2.1, V10.2.2.2.2.1, V10.2.2.2.2.2.1, V10.2.2.2.2.2.2.1, V10.2.2.2.2.2.2.2.1, V10.2.2.2.2.2.2.2.2.1, V10.2.2.2.2.2.2.2.2.2.1, V20.1, V20.2.1, V20.2.2.1, V20.2.2.2.1, V20.2.2.2.2.1, V20.2.2.2.2.2.1, V20.2.2.2.2.2.2.1, V20.2.2.2.2.2.2.2.1, V20.2.2.2.2.2.2.2.2.1, V20.2.2.2.2.2.2.2.2.2⟩, HW⟩
              · rintro b a wy hb hd ⟨z, rfl, HV, HW⟩ K hK
                simp [Region.binds] at hd
                have e2 : (z 135) = .bool true := (HV.out.2.2.1) (by simp [hd])
                have e5 : (z 138) = .bool true := (HV.out.2.2.2.2.2.1) (by simp [hd])
                clear hd
                go_simp
                have V := HV.out
                have V10 := V.2.2.2.2.2.2.2.2.2.2
                have V20 := V10.2.2.2.2.2.2.2.2.2.2
                exact hK _ _ ⟨fun s => if s = 139 then .bool true else if s = 135 then .bool true else if s = 138 then .bool true else z s, rfl, Lib.hid ⟨V.1, V.2.1, fun _ => rfl, V.2.2.2.1, V.2.2.2.2.1, fun _ => rfl, fun _ => rfl, V.2.2.2.2.2.2.2.1, V.2.2.2.2.2.2.2.2.1, V.2.2.2.2.2.2.2.2.2.1, V10.1, V10.2.1, V10.2.2.1, V10.2.2.2.1, V10.2.2.2.2.1, V10.2.2.2.2.2.1, V10.2.2.2.2.2.2.1, V10.2.2.2.2.2.2.2.1, V10.2.2.2.2.2.2.2.2.1, V10.2.2.2.2.2.2.2.2.2.1, V20.1, V20.2.1, V20.2.2.1, V20.2.2.2.1, V20.2.2.2.2.1, V20.2.2.2.2.2.1, V20.2.2.2.2.2.2.1, V20.2.2.2.2.2.2.2.1, V20.2.2.2.2.2.2.2.2.1, V20.2.2.2.2.2.2.2.2.2⟩, HW⟩
              · rintro b a wy hb hd ⟨z, rfl, HV, HW⟩ K hK
                simp [Region.binds] at hd
                have e6 : (z 139) = .bool true := (HV.out.2.2.2.2.2.2.1) (by simp [hd])
                clear hd
                go_simp
                have V := HV.out
                have V10 := V.2.2.2.2.2.2.2.2.2.2
                have V20 := V10.2.2.2.2.2.2.2.2.2.2
                exact hK _ _ ⟨fun s => if s = 140 then .bool true else if s = 139 then .bool true else z s, rfl, Lib.hid ⟨V.1, V.2.1, V.2.2.1, V.2.2.2.1, V.2.2.2.2.1, V.2.2.2.2.2.1, fun _ => rfl, fun _ => rfl, V.2.2.2.2.2.2.2.2.1, V.2.2.2.2.2.2.2.2.2.1, V10.1, V10.2.1, V10.2.2.1, V10.2.2.2.1, V10.2.2.2.2.1, V10.2.2.2.2.2.1, V10.2.2.2.2.2.2.1, V10.2.2.2.2.2.2.2.1, V10.2.2.2.2.2.2.2.2.1, V10.2.2.2.2.2.2.2.2.2.1, V20.1, V20.2.1, V20.2.2.1, V20.2.2.2.1, V20.2.2.2.2.1, V20.2.2.2.2.2.1, V20.2.2.2.2.2.2.1, V20.2.2.2.2.2.2.2.1, V20.2.2.2.2.2.2.2.2.1, V20.2.2.2.2.2.2.2.2.2⟩, HW⟩
              · rintro b a wy hb hd ⟨z, rfl, HV, HW⟩ K hK
                simp [Region.binds] at hd
                have e7 : (z 140) = .bool true := (HV.out.2.2.2.2.2.2.2.1) (by simp [hd])
                clear hd
                go_simp
                have V := HV.out
                have V10 := V.2.2.2.2.2.2.2.2.2.2
                have V20 := V10.2.2.2.2.2.2.2.2.2.2
                exact hK _ _ ⟨fun s => if s = 141 then Value.slice (some ⟨gr, 0, none⟩) 1 1 else if s = 140 then .bool true else z s, rfl, Lib.hid ⟨V.1, V.2.1, V.2.2.1, V.2.2.2.1, V.2.2.2.2.1, V.2.2.2.2.2.1, V.2.2.2.2.2.2.1, fun _ => rfl, fun _ => rfl, V.2.2.2.2.2.2.2.2.2.1, V10.1, V10.2.1, V10.2.2.1, V10.2.2.2.1, V10.2.2.2.2.1, V10.2.2.2.2.2.1, V10.2.2.2.2.2.2.1, V10.2.2.2.2.2.2.2.1, V10.2.2.2.2.2.2.2.2.1, V10.2.2.2.2.2.2.2.2.2.1, V20.1, V20.2.1, V20.2.2.1, V20.2.2.2.1, V20.2.2.2.2.1, V20.2.2.2.2.2.1, V20.2.2.2.2.2.2.1, V20.2.2.2.2.2.2.2.1, V20.2.2.2.2.2.2.2.2.1, V20.2.2.2.2.2.2.2.2.2⟩, HW⟩
              · rintro b a wy hb hd ⟨z, rfl, HV, HW⟩ K hK
                simp [Region.binds] at hd
                have e7 : (z 140) = .bool true := (HV.out.2.2.2.2.2.2.2.1) (by simp [hd])
                have e8 : (z 141) = Value.slice (some ⟨gr, 0, none⟩) 1 1 := (HV.out.2.2.2.2.2.2.2.2.1) (by simp [hd])
                clear hd
                go_simp
                have V := HV.out
                have V10 := V.2.2.2.2.2.2.2.2.2.2
                have V20 := V10.2.2.2.2.2.2.2.2.2.2
                exact hK _ _ ⟨fun s => if s = 142 then .pointer (some ⟨gr, 0, none⟩) else if s = 140 then .bool true else if s = 141 then Value.slice (some ⟨gr, 0, none⟩) 1 1 else z s, rfl, Lib.hid ⟨V.1, V.2.1, V.2.2.1, V.2.2.2.1, V.2.2.2.2.1, V.2.2.2.2.2.1, V.2.2.2.2.2.2.1, fun _ => rfl, fun _ => rfl, fun _ => rfl, V10.1, V10.2.1, V10.2.2.1, V10.2.2.2.1, V10.2.2.2.2.1, V10.2.2.2.2.2.1, V10.2.2.2.2.2.2.1, V10.2.2.2.2.2.2.2.1, V10.2.2.2.2.2.2.2.2.1, V10.2.2.2.2.2.2.2.2.2.1, V20.1, V20.2.1, V20.2.2.1, V20.2.2.2.1, V20.2.2.2.2.1, V20.2.2.2.2.2.1, V20.2.2.2.2.2.2.1, V20.2.2.2.2.2.2.2.1, V20.2.2.2.2.2.2.2.2.1, V20.2.2.2.2.2.2.2.2.2⟩, HW⟩
              · rintro b a wy hb hd ⟨z, rfl, HV, HW⟩ K hK
                simp [Region.binds] at hd
                have e7 : (z 140) = .bool true := (HV.out.2.2.2.2.2.2.2.1) (by simp [hd])
                have e9 : (z 142) = .pointer (some ⟨gr, 0, none⟩) := (HV.out.2.2.2.2.2.2.2.2.2.1) (by simp [hd])
                clear hd
                have rq := Rq.out.below Rq.out.lt HW.out
                rw [e7]
                rw [e9]
                refine if_wanted (by rfl) (wp_load_d (.tmp 142) rfl gr _ rfl (row_d rq) ?_)
                have V := HV.out
                have V10 := V.2.2.2.2.2.2.2.2.2.2
                have V20 := V10.2.2.2.2.2.2.2.2.2.2
                exact hK _ _ ⟨fun s => if s = 143 then .agg #[.bool l, .slice Ar m cr, .slice Br m dr] else if s = 140 then .bool true else if s = 142 then .pointer (some ⟨gr, 0, none⟩) else z s, rfl, Lib.hid ⟨V.1, V.2.1, V.2.2.1, V.2.2.2.1, V.2.2.2.2.1, V.2.2.2.2.2.1, V.2.2.2.2.2.2.1, fun _ => rfl, V.2.2.2.2.2.2.2.2.1, fun _ => rfl, fun _ => rfl, V10.2.1, V10.2.2.1, V10.2.2.2.1, V10.2.2.2.2.1, V10.2.2.2.2.2.1, V10.2.2.2.2.2.2.1, V10.2.2.2.2.2.2.2.1, V10.2.2.2.2.2.2.2.2.1, V10.2.2.2.2.2.2.2.2.2.1, V20.1, V20.2.1, V20.2.2.1, V20.2.2.2.1, V20.2.2.2.2.1, V20.2.2.2.2.2.1, V20.2.2.2.2.2.2.1, V20.2.2.2.2.2.2.2.1, V20.2.2.2.2.2.2.2.2.1, V20.2.2.2.2.2.2.2.2.2⟩, HW⟩
              · rintro b a wy hb hd ⟨z, rfl, HV, HW⟩ K hK
                simp [Region.binds] at hd
                have e7 : (z 140) = .bool true := (HV.out.2.2.2.2.2.2.2.1) (by simp [hd])
                clear hd
                have hbx := XN.out.below XN.out.lt HW.out
                rw [e7]
                refine if_wanted (by rfl) (wp_load_d (.tmp 2) rfl w.heap.size _ rfl hbx ?_)
                have V := HV.out
                have V10 := V.2.2.2.2.2.2.2.2.2.2
                have V20 := V10.2.2.2.2.2.2.2.2.2.2
                exact hK _ _ ⟨fun s => if s = 144 then .agg #[.bool l, .slice A m c, .slice B m d] else if s = 140 then .bool true else z s, rfl, Lib.hid ⟨V.1, V.2.1, V.2.2.1, V.2.2.2.1, V.2.2.2.2.1, V.2.2.2.2.2.1, V.2.2.2.2.2.2.1, fun _ => rfl, V.2.2.2.2.2.2.2.2.1, V.2.2.2.2.2.2.2.2.2.1, V10.1, fun _ => rfl, V10.2.2.1, V10.2.2.2.1, V10.2.2.2.2.1, V10.2.2.2.2.2.1, V10.2.2.2.2.2.2.1, V10.2.2.2.2.2.2.2.1, V10.2.2.2.2.2.2.2.2.1, V10.2.2.2.2.2.2.2.2.2.1, V20.1, V20.2.1, V20.2.2.1, V20.2.2.2.1, V20.2.2.2.2.1, V20.2.2.2.2.2.1, V20.2.2.2.2.2.2.1, V20.2.2.2.2.2.2.2.1, V20.2.2.2.2.2.2.2.2.1, V20.2.2.2.2.2.2.2.2.2⟩, HW⟩
              · rintro b a wy hb hd ⟨z, rfl, HV, HW⟩ K hK
                simp [Region.binds] at hd
                have e7 : (z 140) = .bool true := (HV.out.2.2.2.2.2.2.2.1) (by simp [hd])
                have e10 : (z 143) = .agg #[.bool l, .slice Ar m cr, .slice Br m dr] := (HV.out.2.2.2.2.2.2.2.2.2.2.1) (by simp [hd])
                have e11 : (z 144) = .agg #[.bool l, .slice A m c, .slice B m d] := (HV.out.2.2.2.2.2.2.2.2.2.2.2.1) (by simp [hd])
                clear hd
                have C1 := same_yes l (Nq.out.below HW.out) (NN.out.below HW.out)
                go_simp
                go_at_call 16
                refine (C1).mono ?_
                rintro e wz ⟨rfl, kz⟩
                try go_simp
                have V := HV.out
                have V10 := V.2.2.2.2.2.2.2.2.2.2
                have V20 := V10.2.2.2.2.2.2.2.2.2.2
                exact hK _ _ ⟨fun s => if s = 145 then .bool true else if s = 140 then .bool true else if s = 143 then .agg #[.bool l, .slice Ar m cr, .slice Br m dr] else if s = 144 then .agg #[.bool l, .slice A m c, .slice B m d] else z s, rfl, Lib.hid ⟨V.1, V.2.1, V.2.2.1, V.2.2.2.1, V.2.2.2.2.1, V.2.2.2.2.2.1, V.2.2.2.2.2.2.1, fun _ => rfl, V.2.2.2.2.2.2.2.2.1, V.2.2.2.2.2.2.2.2.2.1, fun _ => rfl, fun _ => rfl, fun _ => rfl, V10.2.2.2.1, V10.2.2.2.2.1, V10.2.2.2.2.2.1, V10.2.2.2.2.2.2.1, V10.2.2.2.2.2.2.2.1, V10.2.2.2.2.2.2.2.2.1, V10.2.2.2.2.2.2.2.2.2.1, V20.1, V20.2.1, V20.2.2.1, V20.2.2.2.1, V20.2.2.2.2.1, V20.2.2.2.2.2.1, V20.2.2.2.2.2.2.1, V20.2.2.2.2.2.2.2.1, V20.2.2.2.2.2.2.2.2.1, V20.2.2.2.2.2.2.2.2.2⟩, Lib.hid (HW.out.trans (kz.mono HW.out.size))⟩
              · rintro b a wy hb hd ⟨z, rfl, HV, HW⟩ K hK
                simp [Region.binds] at hd
                have e7 : (z 140) = .bool true := (HV.out.2.2.2.2.2.2.2.1) (by simp [hd])
                have e12 : (z 145) = .bool true := (HV.out.2.2.2.2.2.2.2.2.2.2.2.2.1) (by simp [hd])
                clear hd
                go_simp
                have V := HV.out
                have V10 := V.2.2.2.2.2.2.2.2.2.2
                have V20 := V10.2.2.2.2.2.2.2.2.2.2
                exact hK _ _ ⟨fun s => if s = 146 then .bool true else if s = 140 then .bool true else if s = 145 then .bool true else z s, rfl, Lib.hid ⟨V.1, V.2.1, V.2.2.1, V.2.2.2.1, V.2.2.2.2.1, V.2.2.2.2.2.1, V.2.2.2.2.2.2.1, fun _ => rfl, V.2.2.2.2.2.2.2.2.1, V.2.2.2.2.2.2.2.2.2.1, V10.1, V10.2.1, fun _ => rfl, fun _ => rfl, V10.2.2.2.2.1, V10.2.2.2.2.2.1, V10.2.2.2.2.2.2.1, V10.2.2.2.2.2.2.2.1, V10.2.2.2.2.2.2.2.2.1, V10.2.2.2.2.2.2.2.2.2.1, V20.1, V20.2.1, V20.2.2.1, V20.2.2.2.1, V20.2.2.2.2.1, V20.2.2.2.2.2.1, V20.2.2.2.2.2.2.1, V20.2.2.2.2.2.2.2.1, V20.2.2.2.2.2.2.2.2.1, V20.2.2.2.2.2.2.2.2.2⟩, HW⟩
              · rintro b a wy hb hd ⟨z, rfl, HV, HW⟩ K hK
                simp [Region.binds] at hd
                have e13 : (z 146) = .bool true := (HV.out.2.2.2.2.2.2.2.2.2.2.2.2.2.1) (by simp [hd])
                clear hd
                go_simp
                have V := HV.out
                have V10 := V.2.2.2.2.2.2.2.2.2.2
                have V20 := V10.2.2.2.2.2.2.2.2.2.2
                exact hK _ _ ⟨fun s => if s = 147 then .bool true else if s = 146 then .bool true else z s, rfl, Lib.hid ⟨V.1, V.2.1, V.2.2.1, V.2.2.2.1, V.2.2.2.2.1, V.2.2.2.2.2.1, V.2.2.2.2.2.2.1, V.2.2.2.2.2.2.2.1, V.2.2.2.2.2.2.2.2.1, V.2.2.2.2.2.2.2.2.2.1, V10.1, V10.2.1, V10.2.2.1, fun _ => rfl, fun _ => rfl, V10.2.2.2.2.2.1, V10.2.2.2.2.2.2.1, V10.2.2.2.2.2.2.2.1, V10.2.2.2.2.2.2.2.2.1, V10.2.2.2.2.2.2.2.2.2.1, V20.1, V20.2.1, V20.2.2.1, V20.2.2.2.1, V20.2.2.2.2.1, V20.2.2.2.2.2.1, V20.2.2.2.2.2.2.1, V20.2.2.2.2.2.2.2.1, V20.2.2.2.2.2.2.2.2.1, V20.2.2.2.2.2.2.2.2.2⟩, HW⟩
              · rintro b a wy hb hd ⟨z, rfl, HV, HW⟩ K hK
                simp [Region.binds] at hd
                have e14 : (z 147) = .bool true := (HV.out.2.2.2.2.2.2.2.2.2.2.2.2.2.2.1) (by simp [hd])
                clear hd
                go_simp
                have V := HV.out
                have V10 := V.2.2.2.2.2.2.2.2.2.2
                have V20 := V10.2.2.2.2.2.2.2.2.2.2
                exact hK _ _ ⟨fun s => if s = 148 then Value.int IntKind.i64 30 else if s = 147 then .bool true else z s, rfl, Lib.hid ⟨V.1, V.2.1, V.2.2.1, V.2.2.2.1, V.2.2.2.2.1, V.2.2.2.2.2.1, V.2.2.2.2.2.2.1, V.2.2.2.2.2.2.2.1, V.2.2.2.2.2.2.2.2.1, V.2.2.2.2.2.2.2.2.2.1, V10.1, V10.2.1, V10.2.2.1, V10.2.2.2.1, fun _ => rfl, fun _ => rfl, V10.2.2.2.2.2.2.1, V10.2.2.2.2.2.2.2.1, V10.2.2.2.2.2.2.2.2.1, V10.2.2.2.2.2.2.2.2.2.1, V20.1, V20.2.1, V20.2.2.1, V20.2.2.2.1, V20.2.2.2.2.1, V20.2.2.2.2.2.1, V20.2.2.2.2.2.2.1, V20.2.2.2.2.2.2.2.1, V20.2.2.2.2.2.2.2.2.1, V20.2.2.2.2.2.2.2.2.2⟩, HW⟩
              · rintro b a wy hb hd ⟨z, rfl, HV, HW⟩ K hK
                simp [Region.binds] at hd
                have e14 : (z 147) = .bool true := (HV.out.2.2.2.2.2.2.2.2.2.2.2.2.2.2.1) (by simp [hd])
                have e15 : (z 148) = Value.int IntKind.i64 30 := (HV.out.2.2.2.2.2.2.2.2.2.2.2.2.2.2.2.1) (by simp [hd])
                clear hd
                go_simp
                have V := HV.out
                have V10 := V.2.2.2.2.2.2.2.2.2.2
                have V20 := V10.2.2.2.2.2.2.2.2.2.2
                exact hK _ _ ⟨fun s => if s = 149 then .bool true else if s = 147 then .bool true else if s = 148 then Value.int IntKind.i64 30 else z s, rfl, Lib.hid ⟨V.1, V.2.1, V.2.2.1, V.2.2.2.1, V.2.2.2.2.1, V.2.2.2.2.2.1, V.2.2.2.2.2.2.1, V.2.2.2.2.2.2.2.1, V.2.2.2.2.2.2.2.2.1, V.2.2.2.2.2.2.2.2.2.1, V10.1, V10.2.1, V10.2.2.1, V10.2.2.2.1, fun _ => rfl, fun _ => rfl, fun _ => rfl, V10.2.2.2.2.2.2.2.1, V10.2.2.2.2.2.2.2.2.1, V10.2.2.2.2.2.2.2.2.2.1, V20.1, V20.2.1, V20.2.2.1, V20.2.2.2.1, V20.2.2.2.2.1, V20.2.2.2.2.2.1, V20.2.2.2.2.2.2.1, V20.2.2.2.2.2.2.2.1, V20.2.2.2.2.2.2.2.2.1, V20.2.2.2.2.2.2.2.2.2⟩, HW⟩
              · rintro b a wy hb hd ⟨z, rfl, HV, HW⟩ K hK
                simp [Region.binds] at hd
                have e14 : (z 147) = .bool true := (HV.out.2.2.2.2.2.2.2.2.2.2.2.2.2.2.1) (by simp [hd])
                have e16 : (z 149) = .bool true := (HV.out.2.2.2.2.2.2.2.2.2.2.2.2.2.2.2.2.1) (by simp [hd])
                clear hd
                go_simp
                have V := HV.out
                have V10 := V.2.2.2.2.2.2.2.2.2.2
                have V20 := V10.2.2.2.2.2.2.2.2.2.2
                exact hK _ _ ⟨fun s => if s = 150 then .bool true else if s = 147 then .bool true else if s = 149 then .bool true else z s, rfl, Lib.hid ⟨V.1, V.2.1, V.2.2.1, V.2.2.2.1, V.2.2.2.2.1, V.2.2.2.2.2.1, V.2.2.2.2.2.2.1, V.2.2.2.2.2.2.2.1, V.2.2.2.2.2.2.2.2.1, V.2.2.2.2.2.2.2.2.2.1, V10.1, V10.2.1, V10.2.2.1, V10.2.2.2.1, fun _ => rfl, V10.2.2.2.2.2.1, fun _ => rfl, fun _ => rfl, V10.2.2.2.2.2.2.2.2.1, V10.2.2.2.2.2.2.2.2.2.1, V20.1, V20.2.1, V20.2.2.1, V20.2.2.2.1, V20.2.2.2.2.1, V20.2.2.2.2.2.1, V20.2.2.2.2.2.2.1, V20.2.2.2.2.2.2.2.1, V20.2.2.2.2.2.2.2.2.1, V20.2.2.2.2.2.2.2.2.2⟩, HW⟩
              · rintro b a wy hb hd ⟨z, rfl, HV, HW⟩ K hK
                simp [Region.binds] at hd
                have e17 : (z 150) = .bool true := (HV.out.2.2.2.2.2.2.2.2.2.2.2.2.2.2.2.2.2.1) (by simp [hd])
                clear hd
                go_simp
                have V := HV.out
                have V10 := V.2.2.2.2.2.2.2.2.2.2
                have V20 := V10.2.2.2.2.2.2.2.2.2.2
                exact hK _ _ ⟨fun s => if s = 151 then .bool true else if s = 150 then .bool true else z s, rfl, Lib.hid ⟨V.1, V.2.1, V.2.2.1, V.2.2.2.1, V.2.2.2.2.1, V.2.2.2.2.2.1, V.2.2.2.2.2.2.1, V.2.2.2.2.2.2.2.1, V.2.2.2.2.2.2.2.2.1, V.2.2.2.2.2.2.2.2.2.1, V10.1, V10.2.1, V10.2.2.1, V10.2.2.2.1, V10.2.2.2.2.1, V10.2.2.2.2.2.1, V10.2.2.2.2.2.2.1, fun _ => rfl, fun _ => rfl, V10.2.2.2.2.2.2.2.2.2.1, V20.1, V20.2.1, V20.2.2.1, V20.2.2.2.1, V20.2.2.2.2.1, V20.2.2.2.2.2.1, V20.2.2.2.2.2.2.1, V20.2.2.2.2.2.2.2.1, V20.2.2.2.2.2.2.2.2.1, V20.2.2.2.2.2.2.2.2.2⟩, HW⟩
              · rintro b a wy hb hd ⟨z, rfl, HV, HW⟩ K hK
                simp [Region.binds] at hd
                have e18 : (z 151) = .bool true := (HV.out.2.2.2.2.2.2.2.2.2.2.2.2.2.2.2.2.2.2.1) (by simp [hd])
                clear hd
                go_simp
                have V := HV.out
                have V10 := V.2.2.2.2.2.2.2.2.2.2
                have V20 := V10.2.2.2.2.2.2.2.2.2.2
                exact hK _ _ ⟨fun s => if s = 152 then Value.map (some bm) else if s = 151 then .bool true else z s, rfl, Lib.hid ⟨V.1, V.2.1, V.2.2.1, V.2.2.2.1, V.2.2.2.2.1, V.2.2.2.2.2.1, V.2.2.2.2.2.2.1, V.2.2.2.2.2.2.2.1, V.2.2.2.2.2.2.2.2.1, V.2.2.2.2.2.2.2.2.2.1, V10.1, V10.2.1, V10.2.2.1, V10.2.2.2.1, V10.2.2.2.2.1, V10.2.2.2.2.2.1, V10.2.2.2.2.2.2.1, V10.2.2.2.2.2.2.2.1, fun _ => rfl, fun _ => rfl, V20.1, V20.2.1, V20.2.2.1, V20.2.2.2.1, V20.2.2.2.2.1, V20.2.2.2.2.2.1, V20.2.2.2.2.2.2.1, V20.2.2.2.2.2.2.2.1, V20.2.2.2.2.2.2.2.2.1, V20.2.2.2.2.2.2.2.2.2⟩, HW⟩
              · rintro b a wy hb hd ⟨z, rfl, HV, HW⟩ K hK
                simp [Region.binds] at hd
                have e18 : (z 151) = .bool true := (HV.out.2.2.2.2.2.2.2.2.2.2.2.2.2.2.2.2.2.2.1) (by simp [hd])
                have e19 : (z 152) = Value.map (some bm) := (HV.out.2.2.2.2.2.2.2.2.2.2.2.2.2.2.2.2.2.2.2.1) (by simp [hd])
                clear hd
                obtain ⟨D, hown, hview⟩ := MM.out.far HW.out
                have hlen := fun ty => hown.len Try.underlying45 ty
                rw [hview.size] at hlen
                clear hown hview
                go_simp
                have V := HV.out
                have V10 := V.2.2.2.2.2.2.2.2.2.2
                have V20 := V10.2.2.2.2.2.2.2.2.2.2
                exact hK _ _ ⟨fun s => if s = 153 then .int .i64 (m : Int) else if s = 151 then .bool true else if s = 152 then Value.map (some bm) else z s, rfl, Lib.hid ⟨V.1, V.2.1, V.2.2.1, V.2.2.2.1, V.2.2.2.2.1, V.2.2.2.2.2.1, V.2.2.2.2.2.2.1, V.2.2.2.2.2.2.2.1, V.2.2.2.2.2.2.2.2.1, V.2.2.2.2.2.2.2.2.2.1, V10.1, V10.2.1, V10.2.2.1, V10.2.2.2.1, V10.2.2.2.2.1, V10.2.2.2.2.2.1, V10.2.2.2.2.2.2.1, V10.2.2.2.2.2.2.2.1, fun _ => rfl, fun _ => rfl, fun _ => rfl, V20.2.1, V20.2.2.1, V20.2.2.2.1, V20.2.2.2.2.1, V20.2.2.2.2.2.1, V20.2.2.2.2.2.2.1, V20.2.2.2.2.2.2.2.1, V20.2.2.2.2.2.2.2.2.1, V20.2.2.2.2.2.2.2.2.2⟩, HW⟩
              · rintro b a wy hb hd ⟨z, rfl, HV, HW⟩ K hK
                simp [Region.binds] at hd
                have e18 : (z 151) = .bool true := (HV.out.2.2.2.2.2.2.2.2.2.2.2.2.2.2.2.2.2.2.1) (by simp [hd])
                clear hd
                go_simp
                have V := HV.out
                have V10 := V.2.2.2.2.2.2.2.2.2.2
                have V20 := V10.2.2.2.2.2.2.2.2.2.2
                exact hK _ _ ⟨fun s => if s = 154 then .pointer (some ⟨w.heap.size, 1, none⟩) else if s = 151 then .bool true else z s, rfl, Lib.hid ⟨V.1, V.2.1, V.2.2.1, V.2.2.2.1, V.2.2.2.2.1, V.2.2.2.2.2.1, V.2.2.2.2.2.2.1, V.2.2.2.2.2.2.2.1, V.2.2.2.2.2.2.2.2.1, V.2.2.2.2.2.2.2.2.2.1, V10.1, V10.2.1, V10.2.2.1, V10.2.2.2.1, V10.2.2.2.2.1, V10.2.2.2.2.2.1, V10.2.2.2.2.2.2.1, V10.2.2.2.2.2.2.2.1, fun _ => rfl, V10.2.2.2.2.2.2.2.2.2.1, V20.1, fun _ => rfl, V20.2.2.1, V20.2.2.2.1, V20.2.2.2.2.1, V20.2.2.2.2.2.1, V20.2.2.2.2.2.2.1, V20.2.2.2.2.2.2.2.1, V20.2.2.2.2.2.2.2.2.1, V20.2.2.2.2.2.2.2.2.2⟩, HW⟩
              · rintro b a wy hb hd ⟨z, rfl, HV, HW⟩ K hK
                simp [Region.binds] at hd
                have e18 : (z 151) = .bool true := (HV.out.2.2.2.2.2.2.2.2.2.2.2.2.2.2.2.2.2.2.1) (by simp [hd])
                have e21 : (z 154) = .pointer (some ⟨w.heap.size, 1, none⟩) := (HV.out.2.2.2.2.2.2.2.2.2.2.2.2.2.2.2.2.2.2.2.2.2.1) (by simp [hd])
                clear hd
                have hbx := (XN.out.below XN.out.lt HW.out).of.cellAt (i := 1) rfl
                go_simp
                have V := HV.out
                have V10 := V.2.2.2.2.2.2.2.2.2.2
                have V20 := V10.2.2.2.2.2.2.2.2.2.2
                exact hK _ _ ⟨fun s => if s = 155 then .slice A m c else if s = 151 then .bool true else if s = 154 then .pointer (some ⟨w.heap.size, 1, none⟩) else z s, rfl, Lib.hid ⟨V.1, V.2.1, V.2.2.1, V.2.2.2.1, V.2.2.2.2.1, V.2.2.2.2.2.1, V.2.2.2.2.2.2.1, V.2.2.2.2.2.2.2.1, V.2.2.2.2.2.2.2.2.1, V.2.2.2.2.2.2.2.2.2.1, V10.1, V10.2.1, V10.2.2.1, V10.2.2.2.1, V10.2.2.2.2.1, V10.2.2.2.2.2.1, V10.2.2.2.2.2.2.1, V10.2.2.2.2.2.2.2.1, fun _ => rfl, V10.2.2.2.2.2.2.2.2.2.1, V20.1, fun _ => rfl, fun _ => rfl, V20.2.2.2.1, V20.2.2.2.2.1, V20.2.2.2.2.2.1, V20.2.2.2.2.2.2.1, V20.2.2.2.2.2.2.2.1, V20.2.2.2.2.2.2.2.2.1, V20.2.2.2.2.2.2.2.2.2⟩, HW⟩
              · rintro b a wy hb hd ⟨z, rfl, HV, HW⟩ K hK
                simp [Region.binds] at hd
                have e18 : (z 151) = .bool true := (HV.out.2.2.2.2.2.2.2.2.2.2.2.2.2.2.2.2.2.2.1) (by simp [hd])
                have e22 : (z 155) = .slice A m c := (HV.out.2.2.2.2.2.2.2.2.2.2.2.2.2.2.2.2.2.2.2.2.2.2.1) (by simp [hd])
                clear hd
                go_simp
                have V := HV.out
                have V10 := V.2.2.2.2.2.2.2.2.2.2
                have V20 := V10.2.2.2.2.2.2.2.2.2.2
                exact hK _ _ ⟨fun s => if s = 156 then .int .i64 (m : Int) else if s = 151 then .bool true else if s = 155 then .slice A m c else z s, rfl, Lib.hid ⟨V.1, V.2.1, V.2.2.1, V.2.2.2.1, V.2.2.2.2.1, V.2.2.2.2.2.1, V.2.2.2.2.2.2.1, V.2.2.2.2.2.2.2.1, V.2.2.2.2.2.2.2.2.1, V.2.2.2.2.2.2.2.2.2.1, V10.1, V10.2.1, V10.2.2.1, V10.2.2.2.1, V10.2.2.2.2.1, V10.2.2.2.2.2.1, V10.2.2.2.2.2.2.1, V10.2.2.2.2.2.2.2.1, fun _ => rfl, V10.2.2.2.2.2.2.2.2.2.1, V20.1, V20.2.1, fun _ => rfl, fun _ => rfl, V20.2.2.2.2.1, V20.2.2.2.2.2.1, V20.2.2.2.2.2.2.1, V20.2.2.2.2.2.2.2.1, V20.2.2.2.2.2.2.2.2.1, V20.2.2.2.2.2.2.2.2.2⟩, HW⟩
              · rintro b a wy hb hd ⟨z, rfl, HV, HW⟩ K hK
                simp [Region.binds] at hd
                have e18 : (z 151) = .bool true := (HV.out.2.2.2.2.2.2.2.2.2.2.2.2.2.2.2.2.2.2.1) (by simp [hd])
                have e20 : (z 153) = .int .i64 (m : Int) := (HV.out.2.2.2.2.2.2.2.2.2.2.2.2.2.2.2.2.2.2.2.2.1) (by simp [hd])
                have e23 : (z 156) = .int .i64 (m : Int) := (HV.out.2.2.2.2.2.2.2.2.2.2.2.2.2.2.2.2.2.2.2.2.2.2.2.1) (by simp [hd])
                clear hd
                go_simp
                have V := HV.out
                have V10 := V.2.2.2.2.2.2.2.2.2.2
                have V20 := V10.2.2.2.2.2.2.2.2.2.2
                exact hK _ _ ⟨fun s => if s = 157 then .bool true else if s = 151 then .bool true else if s = 153 then .int .i64 (m : Int) else if s = 156 then .int .i64 (m : Int) else z s, rfl, Lib.hid ⟨V.1, V.2.1, V.2.2.1, V.2.2.2.1, V.2.2.2.2.1, V.2.2.2.2.2.1, V.2.2.2.2.2.2.1, V.2.2.2.2.2.2.2.1, V.2.2.2.2.2.2.2.2.1, V.2.2.2.2.2.2.2.2.2.1, V10.1, V10.2.1, V10.2.2.1, V10.2.2.2.1, V10.2.2.2.2.1, V10.2.2.2.2.2.1, V10.2.2.2.2.2.2.1, V10.2.2.2.2.2.2.2.1, fun _ => rfl, V10.2.2.2.2.2.2.2.2.2.1, fun _ => rfl, V20.2.1, V20.2.2.1, fun _ => rfl, fun _ => rfl, V20.2.2.2.2.2.1, V20.2.2.2.2.2.2.1, V20.2.2.2.2.2.2.2.1, V20.2.2.2.2.2.2.2.2.1, V20.2.2.2.2.2.2.2.2.2⟩, HW⟩
              · rintro b a wy hb hd ⟨z, rfl, HV, HW⟩ K hK
                simp [Region.binds] at hd
                have e18 : (z 151) = .bool true := (HV.out.2.2.2.2.2.2.2.2.2.2.2.2.2.2.2.2.2.2.1) (by simp [hd])
                have e24 : (z 157) = .bool true := (HV.out.2.2.2.2.2.2.2.2.2.2.2.2.2.2.2.2.2.2.2.2.2.2.2.2.1) (by simp [hd])
                clear hd
                go_simp
                have V := HV.out
                have V10 := V.2.2.2.2.2.2.2.2.2.2
                have V20 := V10.2.2.2.2.2.2.2.2.2.2
                exact hK _ _ ⟨fun s => if s = 158 then .bool true else if s = 151 then .bool true else if s = 157 then .bool true else z s, rfl, Lib.hid ⟨V.1, V.2.1, V.2.2.1, V.2.2.2.1, V.2.2.2.2.1, V.2.2.2.2.2.1, V.2.2.2.2.2.2.1, V.2.2.2.2.2.2.2.1, V.2.2.2.2.2.2.2.2.1, V.2.2.2.2.2.2.2.2.2.1, V10.1, V10.2.1, V10.2.2.1, V10.2.2.2.1, V10.2.2.2.2.1, V10.2.2.2.2.2.1, V10.2.2.2.2.2.2.1, V10.2.2.2.2.2.2.2.1, fun _ => rfl, V10.2.2.2.2.2.2.2.2.2.1, V20.1, V20.2.1, V20.2.2.1, V20.2.2.2.1, fun _ => rfl, fun _ => rfl, V20.2.2.2.2.2.2.1, V20.2.2.2.2.2.2.2.1, V20.2.2.2.2.2.2.2.2.1, V20.2.2.2.2.2.2.2.2.2⟩, HW⟩
              · rintro b a wy hb hd ⟨z, rfl, HV, HW⟩ K hK
                simp [Region.binds] at hd
                have e25 : (z 158) = .bool true := (HV.out.2.2.2.2.2.2.2.2.2.2.2.2.2.2.2.2.2.2.2.2.2.2.2.2.2.1) (by simp [hd])
                clear hd
                go_simp
                have V := HV.out
                have V10 := V.2.2.2.2.2.2.2.2.2.2
                have V20 := V10.2.2.2.2.2.2.2.2.2.2
                exact hK _ _ ⟨fun s => if s = 159 then .bool true else if s = 158 then .bool true else z s, rfl, Lib.hid ⟨V.1, V.2.1, V.2.2.1, V.2.2.2.1, V.2.2.2.2.1, V.2.2.2.2.2.1, V.2.2.2.2.2.2.1, V.2.2.2.2.2.2.2.1, V.2.2.2.2.2.2.2.2.1, V.2.2.2.2.2.2.2.2.2.1, V10.1, V10.2.1, V10.2.2.1, V10.2.2.2.1, V10.2.2.2.2.1, V10.2.2.2.2.2.1, V10.2.2.2.2.2.2.1, V10.2.2.2.2.2.2.2.1, V10.2.2.2.2.2.2.2.2.1, V10.2.2.2.2.2.2.2.2.2.1, V20.1, V20.2.1, V20.2.2.1, V20.2.2.2.1, V20.2.2.2.2.1, fun _ => rfl, fun _ => rfl, V20.2.2.2.2.2.2.2.1, V20.2.2.2.2.2.2.2.2.1, V20.2.2.2.2.2.2.2.2.2⟩, HW⟩
              · rintro b a wy hb hd ⟨z, rfl, HV, HW⟩ K hK
                simp [Region.binds] at hd
                have e26 : (z 159) = .bool true := (HV.out.2.2.2.2.2.2.2.2.2.2.2.2.2.2.2.2.2.2.2.2.2.2.2.2.2.2.1) (by simp [hd])
                clear hd
                have C1 := HAW.out wy
                go_simp
                go_at_call 9
                refine (C1).mono ?_
                rintro e wz ⟨rfl, kz⟩
                try go_simp
                have V := HV.out
                have V10 := V.2.2.2.2.2.2.2.2.2.2
                have V20 := V10.2.2.2.2.2.2.2.2.2.2
                exact hK _ _ ⟨fun s => if s = 160 then .bool true else if s = 159 then .bool true else z s, rfl, Lib.hid ⟨V.1, V.2.1, V.2.2.1, V.2.2.2.1, V.2.2.2.2.1, V.2.2.2.2.2.1, V.2.2.2.2.2.2.1, V.2.2.2.2.2.2.2.1, V.2.2.2.2.2.2.2.2.1, V.2.2.2.2.2.2.2.2.2.1, V10.1, V10.2.1, V10.2.2.1, V10.2.2.2.1, V10.2.2.2.2.1, V10.2.2.2.2.2.1, V10.2.2.2.2.2.2.1, V10.2.2.2.2.2.2.2.1, V10.2.2.2.2.2.2.2.2.1, V10.2.2.2.2.2.2.2.2.2.1, V20.1, V20.2.1, V20.2.2.1, V20.2.2.2.1, V20.2.2.2.2.1, V20.2.2.2.2.2.1, fun _ => rfl, fun _ => rfl, V20.2.2.2.2.2.2.2.2.1, V20.2.2.2.2.2.2.2.2.2⟩, Lib.hid (HW.out.trans (kz.mono HW.out.size))⟩
              · rintro b a wy hb hd ⟨z, rfl, HV, HW⟩ K hK
                simp [Region.binds] at hd
                have e26 : (z 159) = .bool true := (HV.out.2.2.2.2.2.2.2.2.2.2.2.2.2.2.2.2.2.2.2.2.2.2.2.2.2.2.1) (by simp [hd])
                have e27 : (z 160) = .bool true := (HV.out.2.2.2.2.2.2.2.2.2.2.2.2.2.2.2.2.2.2.2.2.2.2.2.2.2.2.2.1) (by simp [hd])
                clear hd
                go_simp
                have V := HV.out
                have V10 := V.2.2.2.2.2.2.2.2.2.2
                have V20 := V10.2.2.2.2.2.2.2.2.2.2
                exact hK _ _ ⟨fun s => if s = 161 then .bool true else if s = 159 then .bool true else if s = 160 then .bool true else z s, rfl, Lib.hid ⟨V.1, V.2.1, V.2.2.1, V.2.2.2.1, V.2.2.2.2.1, V.2.2.2.2.2.1, V.2.2.2.2.2.2.1, V.2.2.2.2.2.2.2.1, V.2.2.2.2.2.2.2.2.1, V.2.2.2.2.2.2.2.2.2.1, V10.1, V10.2.1, V10.2.2.1, V10.2.2.2.1, V10.2.2.2.2.1, V10.2.2.2.2.2.1, V10.2.2.2.2.2.2.1, V10.2.2.2.2.2.2.2.1, V10.2.2.2.2.2.2.2.2.1, V10.2.2.2.2.2.2.2.2.2.1, V20.1, V20.2.1, V20.2.2.1, V20.2.2.2.1, V20.2.2.2.2.1, V20.2.2.2.2.2.1, fun _ => rfl, fun _ => rfl, fun _ => rfl, V20.2.2.2.2.2.2.2.2.2⟩, HW⟩
              · rintro b a wy hb hd ⟨z, rfl, HV, HW⟩ K hK
                simp [Region.binds] at hd
                have e28 : (z 161) = .bool true := (HV.out.2.2.2.2.2.2.2.2.2.2.2.2.2.2.2.2.2.2.2.2.2.2.2.2.2.2.2.2.1) (by simp [hd])
                clear hd
                go_simp
                have V := HV.out
                have V10 := V.2.2.2.2.2.2.2.2.2.2
                have V20 := V10.2.2.2.2.2.2.2.2.2.2
                exact hK _ _ ⟨fun s => if s = 4 then .bool true else if s = 161 then .bool true else z s, rfl, Lib.hid ⟨V.1, V.2.1, V.2.2.1, V.2.2.2.1, V.2.2.2.2.1, V.2.2.2.2.2.1, V.2.2.2.2.2.2.1, V.2.2.2.2.2.2.2.1, V.2.2.2.2.2.2.2.2.1, V.2.2.2.2.2.2.2.2.2.1, V10.1, V10.2.1, V10.2.2.1, V10.2.2.2.1, V10.2.2.2.2.1, V10.2.2.2.2.2.1, V10.2.2.2.2.2.2.1, V10.2.2.2.2.2.2.2.1, V10.2.2.2.2.2.2.2.2.1, V10.2.2.2.2.2.2.2.2.2.1, V20.1, V20.2.1, V20.2.2.1, V20.2.2.2.1, V20.2.2.2.2.1, V20.2.2.2.2.2.1, V20.2.2.2.2.2.2.1, V20.2.2.2.2.2.2.2.1, fun _ => rfl, fun _ => rfl⟩, HW⟩
            case doneU =>
              rintro b a w11 hb ⟨z, rfl, HV, HW⟩
              have e0 := (HV.out.1) (hb 0)
              have e1 := (HV.out.2.1) (hb 1)
              have e2 := (HV.out.2.2.1) (hb 2)
              have e3 := (HV.out.2.2.2.1) (hb 3)
              have e4 := (HV.out.2.2.2.2.1) (hb 4)
              have e5 := (HV.out.2.2.2.2.2.1) (hb 5)
              have e6 := (HV.out.2.2.2.2.2.2.1) (hb 6)
              have e7 := (HV.out.2.2.2.2.2.2.2.1) (hb 7)
              have e8 := (HV.out.2.2.2.2.2.2.2.2.1) (hb 8)
              have e9 := (HV.out.2.2.2.2.2.2.2.2.2.1) (hb 9)
              have e10 := (HV.out.2.2.2.2.2.2.2.2.2.2.1) (hb 10)
              have e11 := (HV.out.2.2.2.2.2.2.2.2.2.2.2.1) (hb 11)
              have e12 := (HV.out.2.2.2.2.2.2.2.2.2.2.2.2.1) (hb 12)
              have e13 := (HV.out.2.2.2.2.2.2.2.2.2.2.2.2.2.1) (hb 13)
              have e14 := (HV.out.2.2.2.2.2.2.2.2.2.2.2.2.2.2.1) (hb 14)
              have e15 := (HV.out.2.2.2.2.2.2.2.2.2.2.2.2.2.2.2.1) (hb 15)
              have e16 := (HV.out.2.2.2.2.2.2.2.2.2.2.2.2.2.2.2.2.1) (hb 16)
              have e17 := (HV.out.2.2.2.2.2.2.2.2.2.2.2.2.2.2.2.2.2.1) (hb 17)
              have e18 := (HV.out.2.2.2.2.2.2.2.2.2.2.2.2.2.2.2.2.2.2.1) (hb 18)
              have e19 := (HV.out.2.2.2.2.2.2.2.2.2.2.2.2.2.2.2.2.2.2.2.1) (hb 19)
              have e20 := (HV.out.2.2.2.2.2.2.2.2.2.2.2.2.2.2.2.2.2.2.2.2.1) (hb 20)
              have e21 := (HV.out.2.2.2.2.2.2.2.2.2.2.2.2.2.2.2.2.2.2.2.2.2.1) (hb 21)
              have e22 := (HV.out.2.2.2.2.2.2.2.2.2.2.2.2.2.2.2.2.2.2.2.2.2.2.1) (hb 22)
              have e23 := (HV.out.2.2.2.2.2.2.2.2.2.2.2.2.2.2.2.2.2.2.2.2.2.2.2.1) (hb 23)
              have e24 := (HV.out.2.2.2.2.2.2.2.2.2.2.2.2.2.2.2.2.2.2.2.2.2.2.2.2.1) (hb 24)
              have e25 := (HV.out.2.2.2.2.2.2.2.2.2.2.2.2.2.2.2.2.2.2.2.2.2.2.2.2.2.1) (hb 25)
              have e26 := (HV.out.2.2.2.2.2.2.2.2.2.2.2.2.2.2.2.2.2.2.2.2.2.2.2.2.2.2.1) (hb 26)
              have e27 := (HV.out.2.2.2.2.2.2.2.2.2.2.2.2.2.2.2.2.2.2.2.2.2.2.2.2.2.2.2.1) (hb 27)
              have e28 := (HV.out.2.2.2.2.2.2.2.2.2.2.2.2.2.2.2.2.2.2.2.2.2.2.2.2.2.2.2.2.1) (hb 28)
              have e29 := (HV.out.2.2.2.2.2.2.2.2.2.2.2.2.2.2.2.2.2.2.2.2.2.2.2.2.2.2.2.2.2) (hb 29)
              simp only [e0, e1, e2, e3, e4, e5, e6, e7, e8, e9, e10, e11, e12, e13, e14, e15, e16, e17, e18, e19, e20, e21, e22, e23, e24, e25, e26, e27, e28, e29]
              clear HV hb e0 e1 e2 e3 e4 e5 e6 e7 e8 e9 e10 e11 e12 e13 e14 e15 e16 e17 e18 e19 e20 e21 e22 e23 e24 e25 e26 e27 e28 e29
              have kz := HW.out
              clear HW
              go_wp2_with fail
              go_ret
              exact ⟨rfl, HB.out.trans (kz.mono HB.out.size)⟩
  · refine (all_no l NN.out hok).mono ?_
    rintro e w2 ⟨rfl, k2⟩
    go_wp2_with fail
    refine (HAW.out _).mono ?_
    rintro e w3 ⟨rfl, k3⟩
    go_wp2_with fail
    go_ret
    exact ⟨rfl, HB.out.trans ((k2.trans (k3.mono k2.size)).mono HB.out.size)⟩

end Go.Proofs.Ytllopocekegljaa.No
