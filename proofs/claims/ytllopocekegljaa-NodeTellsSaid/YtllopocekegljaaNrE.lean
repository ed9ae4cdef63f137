/- Layer 12, the reference: the contract of halves. (Written by bin/gen_nre.py.) -/
import Derived.Test.YtllopocekegljaaNrD
namespace Go.Proofs.Ytllopocekegljaa.No
open Go.RowKit Go.Proofs.Ytllopocekegljaa.Oct Go.Proofs.Ytllopocekegljaa.Lf Go.Proofs.Ytllopocekegljaa.Mv
set_option linter.unusedVariables false
set_option linter.unusedSimpArgs false

set_option maxRecDepth 100000 in
set_option maxHeartbeats 4000000 in
theorem rhalves_any (l : Bool) {w : World} {A B : Option Addr} {n c d : Nat} {ks vs : List UInt64} (h : Nd w A n c B n d ks vs) (hsz : n ≤ 400) (k : Nat) (hk : k = (n + 1) / 2) :
    Calls Try.prog 39 #[.agg #[.bool l, .slice A n c, .slice B n d]] w fun e w' => ∃ u v, e = .returned (.tuple #[u, v]) ∧ OwnD w' w.heap.size u l (mids ks 0 k) (mids vs 0 k) ∧ OwnD w' w.heap.size v l (mids ks k n) (mids vs k n) ∧ Below w.heap.size w w' := by
  have hkn : k ≤ n := by omega
  have hkd : ((n : Int) + 1) / 2 = ((k : Nat) : Int) := by omega
  have b1 := (Below.refl w.heap.size w).alloc (Nat.le_refl _) (.cells #[.bool l, .slice A n c, .slice B n d] 24)
  have b2 := b1.alloc b1.size (.cells #[.bool false, .slice none 0 0, .slice none 0 0] 24)
  have BB := Lib.hid (b2.alloc b2.size (.cells #[.bool false, .slice none 0 0, .slice none 0 0] 24))
  have HBX := Lib.hid (((box_d w (.bool l) (.slice A n c) (.slice B n d)).new (.cells #[.bool false, .slice none 0 0, .slice none 0 0] 24)).new (.cells #[.bool false, .slice none 0 0, .slice none 0 0] 24))
  have HR1 := Lib.hid ((box_d (w.alloc (.cells #[.bool l, .slice A n c, .slice B n d] 24)) (.bool false) (.slice none 0 0) (.slice none 0 0)).new (.cells #[.bool false, .slice none 0 0, .slice none 0 0] 24))
  have HR2 := Lib.hid (box_d ((w.alloc (.cells #[.bool l, .slice A n c, .slice B n d] 24)).alloc (.cells #[.bool false, .slice none 0 0, .slice none 0 0] 24)) (.bool false) (.slice none 0 0) (.slice none 0 0))
  rw [show (w.alloc (.cells #[.bool l, .slice A n c, .slice B n d] 24)).heap.size = w.heap.size + 1 by simp] at HR1
  rw [show ((w.alloc (.cells #[.bool l, .slice A n c, .slice B n d] 24)).alloc (.cells #[.bool false, .slice none 0 0, .slice none 0 0] 24)).heap.size = w.heap.size + 2 by simp] at HR2
  have hz := node_zero
  have hw3 : (((w.alloc (.cells #[.bool l, .slice A n c, .slice B n d] 24)).alloc (.cells #[.bool false, .slice none 0 0, .slice none 0 0] 24)).alloc (.cells #[.bool false, .slice none 0 0, .slice none 0 0] 24)).heap.size = w.heap.size + 3 := by simp
  have HN0 := Lib.hid h
  clear h b1 b2 hk
  go_enter Try.func39, Try.ntmps39
  go_upto_region 2 with (fail)
  rw [hkd]
  clear hkd
  generalize (((w.alloc (.cells #[.bool l, .slice A n c, .slice B n d] 24)).alloc (.cells #[.bool false, .slice none 0 0, .slice none 0 0] 24)).alloc (.cells #[.bool false, .slice none 0 0, .slice none 0 0] 24)) = w3 at *

  refine Inv2.wp_region_inv (fun b a wy => ∃ (z : Nat → Value) (z12 : Value) (z18 : Value), a = ⟨#[Value.agg #[Value.bool l, Value.slice A n c, Value.slice B n d], Value.pointer (some ⟨w.heap.size, 0, none⟩), Value.pointer (some ⟨w.heap.size + 1, 0, none⟩), Value.pointer (some ⟨w.heap.size + 1 + 1, 0, none⟩), Value.int IntKind.i64 (k : Int), Value.pointer (some ⟨w.heap.size, 1, none⟩), Value.slice A n c, Value.int IntKind.i64 (n : Int), Value.int IntKind.i64 ((n : Int) + 1), Value.int IntKind.i64 (k : Int), (z 10), (z 11), z12, (z 13), (z 14), (z 15), (z 16), (z 17), z18], []⟩ ∧ Hid ((b 0 = true → (z 10) = .agg #[.bool l, .slice A n c, .slice B n d]) ∧ (b 1 = true → (z 11) = Value.int IntKind.i64 (k : Int)) ∧ (b 3 = true → (z 13) = .agg #[.bool l, .slice A n c, .slice B n d]) ∧ (b 4 = true → (z 14) = Value.int IntKind.i64 (k : Int)) ∧ (b 5 = true → (z 15) = .pointer (some ⟨w.heap.size, 1, none⟩)) ∧ (b 6 = true → (z 16) = .slice A n c) ∧ (b 7 = true → (z 17) = .int .i64 (n : Int))) ∧ Hid (Below (w.heap.size + 1) w3 wy) ∧ Hid ((b 2 = true → OwnD wy (w.heap.size + 3) z12 l (mids ks 0 k) (mids vs 0 k)) ∧ (b 8 = true → OwnD wy (w.heap.size + 3) z18 l (mids ks k n) (mids vs k n)) ∧ (b 9 = false → BoxD wy (w.heap.size + 1) zeroD) ∧ (b 9 = true → b 2 = true ∧ BoxD wy (w.heap.size + 1) z12) ∧ (b 10 = false → BoxD wy (w.heap.size + 2) zeroD) ∧ (b 10 = true → b 8 = true ∧ BoxD wy (w.heap.size + 2) z18))) (by kernel_rfl) (by kernel_rfl) ?startD ?stepsD ?doneD
  case startD =>
    intro b hb
    refine ⟨fun s => undef, undef, undef, rfl, Lib.hid ⟨?_, ?_, ?_, ?_, ?_, ?_, ?_⟩, Lib.hid ((show Still w3 w3.drew from ⟨rfl, rfl, rfl, rfl⟩).below _), Lib.hid (⟨(fun e => by rw [hb _ (by decide)] at e; cases e), (fun e => by rw [hb _ (by decide)] at e; cases e), fun _ => HR1.out, (fun e => by rw [hb _ (by decide)] at e; cases e), fun _ => HR2.out, (fun e => by rw [hb _ (by decide)] at e; cases e)⟩)⟩
    all_goals (intro e; first | rfl | (rw [hb _ (by decide)] at e; cases e))
  case stepsD =>
    refine ⟨?_, ?_, ?_, ?_, ?_, ?_, ?_, ?_, ?_, ?_, ?_, trivial⟩
    · rintro b a wy hb hd ⟨z, z12, z18, rfl, HV, HW, HX⟩ K hK
      clear hd
      have hbx := HBX.out.below (by omega) HW.out
      refine if_wanted (by rfl) (wp_load_d (.tmp 1) rfl w.heap.size _ rfl hbx ?_)
      have V := HV.out
      exact hK _ _ ⟨fun s => if s = 10 then .agg #[.bool l, .slice A n c, .slice B n d] else z s, _, _, rfl, Lib.hid ⟨fun _ => rfl, V.2.1, V.2.2.1, V.2.2.2.1, V.2.2.2.2.1, V.2.2.2.2.2.1, V.2.2.2.2.2.2⟩, HW, HX⟩
    · rintro b a wy hb hd ⟨z, z12, z18, rfl, HV, HW, HX⟩ K hK
      clear hd
      go_simp
      have V := HV.out
      exact hK _ _ ⟨fun s => if s = 11 then Value.int IntKind.i64 (k : Int) else z s, _, _, rfl, Lib.hid ⟨V.1, fun _ => rfl, V.2.2.1, V.2.2.2.1, V.2.2.2.2.1, V.2.2.2.2.2.1, V.2.2.2.2.2.2⟩, HW, HX⟩
    · rintro b a wy hb hd ⟨z, z12, z18, rfl, HV, HW, HX⟩ K hK
      simp [Region.binds] at hd
      have e0 : (z 10) = .agg #[.bool l, .slice A n c, .slice B n d] := (HV.out.1) (by simp [hd])
      have e1 : (z 11) = Value.int IntKind.i64 (k : Int) := (HV.out.2.1) (by simp [hd])
      clear hd
      obtain ⟨x1, x2, x3, x4, x5, x6⟩ := HX.out
      have hsz9 : w.heap.size + 3 ≤ wy.heap.size := by have := HW.out.size; omega
      have HNy := Lib.hid (show Nd wy A n c B n d ks vs from HN0.out.below (BB.out.trans (HW.out.mono (by omega))))
      have b7 : b 9 = false := by
        rcases Bool.eq_false_or_eq_true (b 9) with e | e
        · exact absurd (hb.symm.trans (x4 e).1) (by decide)
        · exact e
      have C1 := part_any l HNy.out 0 k (Nat.zero_le _) hkn hsz
      go_simp
      go_at_call 36
      refine (C1).mono ?_
      rintro e wz ⟨v, rfl, ow, kz⟩
      try go_simp
      have V := HV.out
      exact hK _ _ ⟨fun s => if s = 10 then .agg #[.bool l, .slice A n c, .slice B n d] else if s = 11 then Value.int IntKind.i64 (k : Int) else z s, _, _, rfl, Lib.hid ⟨fun _ => rfl, fun _ => rfl, V.2.2.1, V.2.2.2.1, V.2.2.2.2.1, V.2.2.2.2.2.1, V.2.2.2.2.2.2⟩, Lib.hid (HW.out.trans (kz.mono (by omega))), Lib.hid ⟨fun _ => ow.d.mono hsz9, fun e => (x2 e).at kz, fun e => (x3 e).below (by omega) kz, fun e => absurd (b7.symm.trans e) (by decide), fun e => (x5 e).below (by omega) kz, fun e => ⟨(x6 e).1, (x6 e).2.below (by omega) kz⟩⟩⟩
    · rintro b a wy hb hd ⟨z, z12, z18, rfl, HV, HW, HX⟩ K hK
      clear hd
      have hbx := HBX.out.below (by omega) HW.out
      refine if_wanted (by rfl) (wp_load_d (.tmp 1) rfl w.heap.size _ rfl hbx ?_)
      have V := HV.out
      exact hK _ _ ⟨fun s => if s = 13 then .agg #[.bool l, .slice A n c, .slice B n d] else z s, _, _, rfl, Lib.hid ⟨V.1, V.2.1, fun _ => rfl, V.2.2.2.1, V.2.2.2.2.1, V.2.2.2.2.2.1, V.2.2.2.2.2.2⟩, HW, HX⟩
    · rintro b a wy hb hd ⟨z, z12, z18, rfl, HV, HW, HX⟩ K hK
      clear hd
      go_simp
      have V := HV.out
      exact hK _ _ ⟨fun s => if s = 14 then Value.int IntKind.i64 (k : Int) else z s, _, _, rfl, Lib.hid ⟨V.1, V.2.1, V.2.2.1, fun _ => rfl, V.2.2.2.2.1, V.2.2.2.2.2.1, V.2.2.2.2.2.2⟩, HW, HX⟩
    · rintro b a wy hb hd ⟨z, z12, z18, rfl, HV, HW, HX⟩ K hK
      clear hd
      go_simp
      have V := HV.out
      exact hK _ _ ⟨fun s => if s = 15 then .pointer (some ⟨w.heap.size, 1, none⟩) else z s, _, _, rfl, Lib.hid ⟨V.1, V.2.1, V.2.2.1, V.2.2.2.1, fun _ => rfl, V.2.2.2.2.2.1, V.2.2.2.2.2.2⟩, HW, HX⟩
    · rintro b a wy hb hd ⟨z, z12, z18, rfl, HV, HW, HX⟩ K hK
      simp [Region.binds] at hd
      have e5 : (z 15) = .pointer (some ⟨w.heap.size, 1, none⟩) := (HV.out.2.2.2.2.1) (by simp [hd])
      clear hd
      have hbx := HBX.out.below (by omega) HW.out
      have c1 := hbx.of.cellAt (i := 1) rfl
      clear hbx
      go_simp
      have V := HV.out
      exact hK _ _ ⟨fun s => if s = 16 then .slice A n c else if s = 15 then .pointer (some ⟨w.heap.size, 1, none⟩) else z s, _, _, rfl, Lib.hid ⟨V.1, V.2.1, V.2.2.1, V.2.2.2.1, fun _ => rfl, fun _ => rfl, V.2.2.2.2.2.2⟩, HW, HX⟩
    · rintro b a wy hb hd ⟨z, z12, z18, rfl, HV, HW, HX⟩ K hK
      simp [Region.binds] at hd
      have e6 : (z 16) = .slice A n c := (HV.out.2.2.2.2.2.1) (by simp [hd])
      clear hd
      go_simp
      have V := HV.out
      exact hK _ _ ⟨fun s => if s = 17 then .int .i64 (n : Int) else if s = 16 then .slice A n c else z s, _, _, rfl, Lib.hid ⟨V.1, V.2.1, V.2.2.1, V.2.2.2.1, V.2.2.2.2.1, fun _ => rfl, fun _ => rfl⟩, HW, HX⟩
    · rintro b a wy hb hd ⟨z, z12, z18, rfl, HV, HW, HX⟩ K hK
      simp [Region.binds] at hd
      have e3 : (z 13) = .agg #[.bool l, .slice A n c, .slice B n d] := (HV.out.2.2.1) (by simp [hd])
      have e4 : (z 14) = Value.int IntKind.i64 (k : Int) := (HV.out.2.2.2.1) (by simp [hd])
      have e7 : (z 17) = .int .i64 (n : Int) := (HV.out.2.2.2.2.2.2) (by simp [hd])
      clear hd
      obtain ⟨x1, x2, x3, x4, x5, x6⟩ := HX.out
      have hsz9 : w.heap.size + 3 ≤ wy.heap.size := by have := HW.out.size; omega
      have HNy := Lib.hid (show Nd wy A n c B n d ks vs from HN0.out.below (BB.out.trans (HW.out.mono (by omega))))
      have b8 : b 10 = false := by
        rcases Bool.eq_false_or_eq_true (b 10) with e | e
        · exact absurd (hb.symm.trans (x6 e).1) (by decide)
        · exact e
      have C1 := part_any l HNy.out k n hkn (Nat.le_refl _) hsz
      go_simp
      go_at_call 36
      refine (C1).mono ?_
      rintro e wz ⟨v, rfl, ow, kz⟩
      try go_simp
      have V := HV.out
      exact hK _ _ ⟨fun s => if s = 13 then .agg #[.bool l, .slice A n c, .slice B n d] else if s = 14 then Value.int IntKind.i64 (k : Int) else if s = 17 then .int .i64 (n : Int) else z s, _, _, rfl, Lib.hid ⟨V.1, V.2.1, fun _ => rfl, fun _ => rfl, V.2.2.2.2.1, V.2.2.2.2.2.1, fun _ => rfl⟩, Lib.hid (HW.out.trans (kz.mono (by omega))), Lib.hid ⟨fun e => (x1 e).at kz, fun _ => ow.d.mono hsz9, fun e => (x3 e).below (by omega) kz, fun e => ⟨(x4 e).1, (x4 e).2.below (by omega) kz⟩, fun e => (x5 e).below (by omega) kz, fun e => absurd (b8.symm.trans e) (by decide)⟩⟩
    · rintro b a wy hb hd ⟨z, z12, z18, rfl, HV, HW, HX⟩ K hK
      simp [Region.binds] at hd
      have dd2 : b 2 = true := by simp [hd]
      clear hd
      obtain ⟨x1, x2, x3, x4, x5, x6⟩ := HX.out
      have hr := x3 hb
      refine if_wanted (by rfl) (wp_store_d (.tmp 2) (.tmp 12) rfl (w.heap.size + 1) (w.heap.size + 3) z12 _ l (mids ks 0 k) (mids vs 0 k) rfl rfl hr (x1 dd2) (fun cs HC => ?_))
      have V := HV.out
      exact hK _ _ ⟨fun s => z s, _, _, rfl, Lib.hid ⟨V.1, V.2.1, V.2.2.1, V.2.2.2.1, V.2.2.2.2.1, V.2.2.2.2.2.1, V.2.2.2.2.2.2⟩, Lib.hid (HW.out.trans (row_below _ (by omega))), Lib.hid ⟨fun e => (x1 e).row _ (by omega), fun e => (x2 e).row _ (by omega), fun e => (by cases e), fun _ => ⟨dd2, HC⟩, fun e => (x5 e).other _ (by omega), fun e => ⟨(x6 e).1, (x6 e).2.other _ (by omega)⟩⟩⟩
    · rintro b a wy hb hd ⟨z, z12, z18, rfl, HV, HW, HX⟩ K hK
      simp [Region.binds] at hd
      have dd8 : b 8 = true := by simp [hd]
      clear hd
      obtain ⟨x1, x2, x3, x4, x5, x6⟩ := HX.out
      have hr := x5 hb
      refine if_wanted (by rfl) (wp_store_d (.tmp 3) (.tmp 18) rfl (w.heap.size + 2) (w.heap.size + 3) z18 _ l (mids ks k n) (mids vs k n) rfl rfl hr (x2 dd8) (fun cs HC => ?_))
      have V := HV.out
      exact hK _ _ ⟨fun s => z s, _, _, rfl, Lib.hid ⟨V.1, V.2.1, V.2.2.1, V.2.2.2.1, V.2.2.2.2.1, V.2.2.2.2.2.1, V.2.2.2.2.2.2⟩, Lib.hid (HW.out.trans (row_below _ (by omega))), Lib.hid ⟨fun e => (x1 e).row _ (by omega), fun e => (x2 e).row _ (by omega), fun e => (x3 e).other _ (by omega), fun e => ⟨(x4 e).1, (x4 e).2.other _ (by omega)⟩, fun e => (by cases e), fun _ => ⟨dd8, HC⟩⟩⟩
  case doneD =>
    rintro b a w9 hb ⟨z, z12, z18, rfl, HV, HW, HX⟩
    have e0 := (HV.out.1) (hb 0)
    have e1 := (HV.out.2.1) (hb 1)
    have e3 := (HV.out.2.2.1) (hb 3)
    have e4 := (HV.out.2.2.2.1) (hb 4)
    have e5 := (HV.out.2.2.2.2.1) (hb 5)
    have e6 := (HV.out.2.2.2.2.2.1) (hb 6)
    have e7 := (HV.out.2.2.2.2.2.2) (hb 7)
    simp only [e0, e1, e3, e4, e5, e6, e7]
    clear HV e0 e1 e3 e4 e5 e6 e7
    obtain ⟨x1, x2, _, x4, _, x6⟩ := HX.out
    have H9 := Lib.hid (And.intro (x1 (hb 2)) (x2 (hb 8)))
    have HR9 := Lib.hid (And.intro (x4 (hb 9)).2 (x6 (hb 10)).2)
    have HB9 := Lib.hid (BB.out.trans (HW.out.mono (by omega)))
    clear x1 x2 x4 x6 HX HW hb
    go_wp2_with fail
    refine bodyPost_ret (v := .tuple #[z12, z18]) (res_two rfl _ rfl rfl HR9.out.1 HR9.out.2) rfl ⟨_, _, rfl, H9.out.1.mono (by omega), H9.out.2.mono (by omega), HB9.out⟩

end Go.Proofs.Ytllopocekegljaa.No
