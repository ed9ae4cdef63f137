/- Layer 12: the contract of Cut. (Written by bin/gen_nok.py.) -/
import Derived.Test.YtllopocekegljaaNoJ
namespace Go.Proofs.Ytllopocekegljaa.No
open Go.RowKit Go.Proofs.Ytllopocekegljaa.Oct Go.Proofs.Ytllopocekegljaa.Lf Go.Proofs.Ytllopocekegljaa.Mv
set_option linter.unusedVariables false
set_option linter.unusedSimpArgs false

def cutR (l : Bool) (ks vs : List UInt64) (x y : UInt64) : PN × List UInt64 × Nat :=
  if Ok l ks vs ∧ l = true then ((l, cutIn ks (low ks x) (max (low ks x) (upto ks y)) [], cutIn vs (low ks x) (max (low ks x) (upto ks y)) []), (vs.drop (low ks x)).take (max (low ks x) (upto ks y) - low ks x), 0) else (zn, [], 30)
theorem run_nums_mid (A : Option Addr) (n c i j : Nat) (hij : i ≤ j) (hj : j ≤ n) (hc : n ≤ c) (hm : c ≤ maxLen) :
    ∃ X : Option Addr, (∀ w, (Instr.slice 22 (.slice A n c) (some (.int .i64 (i : Int))) (some (.int .i64 (j : Int))) none).run Try.prog w = .ok (.slice X (j - i) (c - i)) w) ∧
      (∀ w ns, ns.length = n → ToldN w A ns → ToldN w X ((ns.drop i).take (j - i))) := by
  unfold maxLen at hm
  have ht : Try.prog.underlying 22 = some (.slice (Try.prog.elem 22)) := by simp [Program.elem, Try.underlying22]
  have he : Try.prog.elem 22 = 25 := by simp [Program.elem, Try.underlying22]
  cases A with
  | none =>
    refine ⟨none, fun w => ?_, fun w ns hl hT => ?_⟩
    · rw [run_slice_lh w 22 _ n c ht .i64 .i64 (i : Int) (j : Int) (by omega) (by omega) (by omega), he, num_size]
      have e : ((j : Int) - (i : Int)).toNat = j - i := by omega
      simp [Result.andThen, sliced, e]
    · rcases hT with rfl | ⟨b, o, h, _⟩
      · exact .inl (by simp)
      · cases h
  | some a =>
    refine ⟨some (if c = i then a else a.add i), fun w => ?_, fun w ns hl hT => ?_⟩
    · rw [run_slice_lh w 22 _ n c ht .i64 .i64 (i : Int) (j : Int) (by omega) (by omega) (by omega), he, num_size]
      by_cases hck : c = i
      · simp [Result.andThen, sliced, hck]
      · simp [Result.andThen, sliced, hck]
    · by_cases hkn : i < n
      · rcases hT with rfl | ⟨b, o, h, hw⟩
        · exact .inl (by simp)
        · cases h
          rw [if_neg (by omega), add_plain]
          exact .inr ⟨b, o + i, rfl, hw.cut i (j - i)⟩
      · exact .inl (by rw [List.drop_of_length_le (by omega), List.take_nil])

set_option maxRecDepth 100000 in
set_option maxHeartbeats 4000000 in
theorem cut_any (l : Bool) {w : World} {A B : Option Addr} {n c m d : Nat} {ks vs : List UInt64} (h : Nd w A n c B m d ks vs) (x y : UInt64) (t : PN × List UInt64 × Nat) (ht : t = cutR l ks vs x y) :
    Calls Try.prog 23 #[.agg #[.bool l, .slice A n c, .slice B m d], .int .u64 (x.toNat : Int), .int .u64 (y.toNat : Int)] w fun e w' => ∃ v g, e = .returned (.tuple #[v, g, .int .i64 (t.2.2 : Nat)]) ∧ OwnD w' w.heap.size v t.1.1 t.1.2.1 t.1.2.2 ∧ OwnN w' w.heap.size g t.2.1 ∧ Below w.heap.size w w' := by
  have b1 := (Below.refl w.heap.size w).alloc (Nat.le_refl _) (.cells #[.bool l, .slice A n c, .slice B m d] 24)
  have BB := Lib.hid (b1.alloc b1.size (.cells #[.bool false, .slice none 0 0, .slice none 0 0] 24))
  have HBX := Lib.hid ((box_row w l A n c B m d).below (by simp) ((Below.refl _ _).alloc (Nat.le_refl _) (.cells #[.bool false, .slice none 0 0, .slice none 0 0] 24)))
  have HR := Lib.hid (box_d (w.alloc (.cells #[.bool l, .slice A n c, .slice B m d] 24)) (.bool false) (.slice none 0 0) (.slice none 0 0))
  rw [show (w.alloc (.cells #[.bool l, .slice A n c, .slice B m d] 24)).heap.size = w.heap.size + 1 by simp] at HR
  have HN := Lib.hid (h.below BB.out)
  have kl := h.kl
  have HT := Lib.hid ht
  have hz := node_zero
  have hs2 : ((w.alloc (.cells #[.bool l, .slice A n c, .slice B m d] 24)).alloc (.cells #[.bool false, .slice none 0 0, .slice none 0 0] 24)).heap.size = w.heap.size + 2 := by simp
  have HN0 := Lib.hid h
  clear h ht b1
  go_enter Try.func23, Try.ntmps23
  go_wp2_with fail
  generalize (w.alloc (.cells #[.bool l, .slice A n c, .slice B m d] 24)).alloc (.cells #[.bool false, .slice none 0 0, .slice none 0 0] 24) = w1 at *
  refine (right_any l HN.out).mono ?_
  rintro e w2 ⟨rfl, B2⟩
  have BB2 := Lib.hid (BB.out.trans (B2.mono BB.out.size))
  have HBX2 := Lib.hid (HBX.out.below HBX.out.lt B2)
  have HR2 := Lib.hid (HR.out.below HR.out.lt B2)
  have HN2 := Lib.hid (HN.out.below B2)
  have hw2 : w.heap.size + 2 ≤ w2.heap.size := by have := B2.size; omega
  clear B2
  have p0 := HBX2.out.cellAt (i := 0) rfl
  by_cases hok : Ok l ks vs
  · rw [decide_eq_true hok]
    obtain rfl : m = n := by rw [← HN.out.vl, ← kl]; exact hok.2.1
    have h7 := hok.1
    have HK := Lib.hid hok
    clear hok
    cases l
    · obtain rfl : t = (zn, [], 30) := by rw [HT.out]; unfold cutR; rw [if_neg (fun h => by cases h.2)]
      go_wp2_with (first | (refine wpList_build_as rfl 24 #[] rfl #[.bool false, .slice none 0 0, .slice none 0 0] (by simp [Act.eval]; exact node_bare) ?_) | (refine wpList_store_d rfl (.tmp 6) (.tmp 20) rfl (w.heap.size + 1) 0 zeroD _ false [] [] rfl rfl HR2.out (own_zero _ _) ?_; intro cs HC))
      exact bodyPost_ret (v := _) (res_node rfl _ rfl HC) rfl ⟨_, _, rfl, own_zero _ _, own_nil _ _, BB2.out.trans (row_below cs (by omega))⟩
    · have E2 := show t = ((true, cutIn ks (low ks x) (max (low ks x) (upto ks y)) [], cutIn vs (low ks x) (max (low ks x) (upto ks y)) []), (vs.drop (low ks x)).take (max (low ks x) (upto ks y) - low ks x), 0) by rw [HT.out]; unfold cutR; rw [if_pos ⟨HK.out, rfl⟩]
      subst E2
      clear HT
      go_wp2_with (first | (refine wpList_load_d rfl (.tmp 3) rfl w.heap.size _ rfl (row_d HBX2.out) ?_))
      refine (span_any true HN2.out HK.out.2.2.1 (by omega) x y).mono ?_
      rintro e w3 ⟨rfl, B3⟩
      have BB3 := Lib.hid (BB2.out.trans (B3.mono BB2.out.size))
      have HBX3 := Lib.hid (HBX2.out.below HBX2.out.lt B3)
      have HR3 := Lib.hid (HR2.out.below HR2.out.lt B3)
      have HN3 := Lib.hid (HN2.out.below B3)
      have hw3 : w.heap.size + 2 ≤ w3.heap.size := by have := B3.size; omega
      clear B3
      have l1 := low_le ks x
      have l2 := upto_le ks y
      generalize (decide (low ks x < upto ks y)) = bb
      obtain ⟨lo, hlo⟩ : ∃ v, v = low ks x := ⟨_, rfl⟩
      obtain ⟨hi, hhi⟩ : ∃ v, v = max (low ks x) (upto ks y) := ⟨_, rfl⟩
      have i1 : lo ≤ hi := by omega
      have i2 : hi ≤ m := by omega
      rw [← hhi, ← hlo]
      have HLO := Lib.hid hlo
      have HHI := Lib.hid hhi
      clear hhi hlo l1 l2 p0
      obtain ⟨X, hX, tX⟩ := run_nums_mid B m d lo hi i1 i2 HN0.out.vc HN0.out.vm
      have HTX := Lib.hid tX
      clear tX
      go_upto_region 4 with (fail)
      refine Inv2.wp_region_inv (fun b a wy => ∃ (z : Nat → Value) (z7 : Value) (z32 : Value) (z38 : Value) (z39 : Value), a = ⟨(List.toArray (Value.agg #[Value.bool true, Value.slice A m c, Value.slice B m d] :: Value.int IntKind.u64 ↑x.toNat :: Value.int IntKind.u64 ↑y.toNat :: Value.pointer (some ⟨w.heap.size, 0, none⟩) :: undef :: undef :: Value.pointer (some ⟨w.heap.size + 1, 0, none⟩) :: z7 :: (z 8) :: Value.int IntKind.i64 (lo : Int) :: Value.int IntKind.i64 (hi : Int) :: Value.bool bb :: Value.agg #[Value.bool true, Value.slice A m c, Value.slice B m d] :: Value.bool true :: Value.bool false :: Value.bool false :: Value.pointer (some ⟨w.heap.size, 0, none⟩) :: Value.bool true :: Value.bool false :: Value.bool false :: undef :: Value.tuple #[Value.int IntKind.i64 (lo : Int), Value.int IntKind.i64 (hi : Int), Value.bool bb] :: Value.agg #[Value.bool true, Value.slice A m c, Value.slice B m d] :: Value.int IntKind.u64 ↑x.toNat :: Value.int IntKind.u64 ↑y.toNat :: Value.tuple #[Value.int IntKind.i64 (lo : Int), Value.int IntKind.i64 (hi : Int), Value.bool bb] :: Value.int IntKind.i64 (lo : Int) :: Value.int IntKind.i64 (hi : Int) :: Value.bool bb :: (z 29) :: (z 30) :: (z 31) :: z32 :: (z 33) :: (z 34) :: (z 35) :: (z 36) :: (z 37) :: z38 :: z39 :: [])), []⟩ ∧ Hid ((b 0 = true → (z 29) = .agg #[.bool true, .slice A m c, .slice B m d]) ∧ (b 1 = true → (z 30) = Value.int IntKind.i64 (lo : Int)) ∧ (b 2 = true → (z 31) = Value.int IntKind.i64 (hi : Int)) ∧ (b 4 = true → (z 33) = .pointer (some ⟨w.heap.size, 2, none⟩)) ∧ (b 5 = true → (z 34) = .slice B m d) ∧ (b 6 = true → (z 35) = Value.int IntKind.i64 (lo : Int)) ∧ (b 7 = true → (z 36) = Value.int IntKind.i64 (hi : Int)) ∧ (b 8 = true → (z 37) = .slice X (hi - lo) (d - lo)) ∧ (b 13 = true → (z 8) = .int .i64 0)) ∧ Hid (Below (w.heap.size + 1) w3 wy) ∧ Hid ((b 3 = true → OwnD wy (w.heap.size + 2) z32 true (cutIn ks lo hi []) (cutIn vs lo hi [])) ∧ (b 10 = true → b 9 = true ∧ OwnN wy (w.heap.size + 2) z39 ((vs.drop lo).take (hi - lo))) ∧ (b 9 = true → b 10 = false → ∃ g, z38 = .slice (some ⟨g, 0, none⟩) 1 1 ∧ w3.heap.size ≤ g ∧ wy.cell? ⟨g, 0, none⟩ = some (.slice X (hi - lo) (d - lo))) ∧ (b 11 = false → BoxD wy (w.heap.size + 1) zeroD) ∧ (b 11 = true → b 3 = true ∧ BoxD wy (w.heap.size + 1) z32) ∧ (b 12 = true → b 10 = true ∧ z7 = z39))) (by kernel_rfl) (by kernel_rfl) ?startD ?stepsD ?doneD
      case startD =>
        intro b hb
        refine ⟨fun s => if s = 8 then Value.int IntKind.i64 0 else undef, Value.slice none 0 0, undef, undef, undef, rfl, Lib.hid ⟨?_, ?_, ?_, ?_, ?_, ?_, ?_, ?_, ?_⟩, Lib.hid ((show Still w3 w3.drew from ⟨rfl, rfl, rfl, rfl⟩).below _), Lib.hid (⟨(fun e => by rw [hb _ (by decide)] at e; cases e), (fun e => by rw [hb _ (by decide)] at e; cases e), (fun e => by rw [hb _ (by decide)] at e; cases e), fun _ => HR3.out, (fun e => by rw [hb _ (by decide)] at e; cases e), (fun e => by rw [hb _ (by decide)] at e; cases e)⟩)⟩
        all_goals (intro e; first | rfl | (rw [hb _ (by decide)] at e; cases e))
      case stepsD =>
        refine ⟨?_, ?_, ?_, ?_, ?_, ?_, ?_, ?_, ?_, ?_, ?_, ?_, ?_, ?_, trivial⟩
        · rintro b a wy hb hd ⟨z, z7, z32, z38, z39, rfl, HV, HW, HX⟩ K hK
          clear hd
          have hbx := HBX3.out.below (by omega) HW.out
          refine if_wanted (by rfl) (wp_load_d (.tmp 3) rfl w.heap.size _ rfl (row_d hbx) ?_)
          have V := HV.out
          exact hK _ _ ⟨fun s => if s = 29 then .agg #[.bool true, .slice A m c, .slice B m d] else z s, _, _, _, _, rfl, Lib.hid ⟨fun _ => rfl, V.2.1, V.2.2.1, V.2.2.2.1, V.2.2.2.2.1, V.2.2.2.2.2.1, V.2.2.2.2.2.2.1, V.2.2.2.2.2.2.2.1, V.2.2.2.2.2.2.2.2⟩, HW, HX⟩
        · rintro b a wy hb hd ⟨z, z7, z32, z38, z39, rfl, HV, HW, HX⟩ K hK
          clear hd
          go_simp
          have V := HV.out
          exact hK _ _ ⟨fun s => if s = 30 then Value.int IntKind.i64 (lo : Int) else z s, _, _, _, _, rfl, Lib.hid ⟨V.1, fun _ => rfl, V.2.2.1, V.2.2.2.1, V.2.2.2.2.1, V.2.2.2.2.2.1, V.2.2.2.2.2.2.1, V.2.2.2.2.2.2.2.1, V.2.2.2.2.2.2.2.2⟩, HW, HX⟩
        · rintro b a wy hb hd ⟨z, z7, z32, z38, z39, rfl, HV, HW, HX⟩ K hK
          clear hd
          go_simp
          have V := HV.out
          exact hK _ _ ⟨fun s => if s = 31 then Value.int IntKind.i64 (hi : Int) else z s, _, _, _, _, rfl, Lib.hid ⟨V.1, V.2.1, fun _ => rfl, V.2.2.2.1, V.2.2.2.2.1, V.2.2.2.2.2.1, V.2.2.2.2.2.2.1, V.2.2.2.2.2.2.2.1, V.2.2.2.2.2.2.2.2⟩, HW, HX⟩
        · rintro b a wy hb hd ⟨z, z7, z32, z38, z39, rfl, HV, HW, HX⟩ K hK
          simp [Region.binds] at hd
          have e0 : (z 29) = .agg #[.bool true, .slice A m c, .slice B m d] := (HV.out.1) (by simp [hd])
          have e1 : (z 30) = Value.int IntKind.i64 (lo : Int) := (HV.out.2.1) (by simp [hd])
          have e2 : (z 31) = Value.int IntKind.i64 (hi : Int) := (HV.out.2.2.1) (by simp [hd])
          clear hd
          obtain ⟨x1, x2, x3, x4, x5, x6⟩ := HX.out
          have hsz9 : w.heap.size + 2 ≤ wy.heap.size := by have := HW.out.size; omega
          have HNy := Lib.hid (HN0.out.below (BB3.out.trans (HW.out.mono (by omega))))
          have b11 : b 11 = false := by
              rcases Bool.eq_false_or_eq_true (b 11) with e | e
              · exact absurd (hb.symm.trans (x5 e).1) (by decide)
              · exact e
          have C1 := without_any true HNy.out lo hi (by omega) i2 (by omega)
          go_simp
          go_at_call 37
          refine (C1).mono ?_
          rintro e wz ⟨v, rfl, ow, kz⟩
          try go_simp
          have V := HV.out
          exact hK _ _ ⟨fun s => if s = 29 then .agg #[.bool true, .slice A m c, .slice B m d] else if s = 30 then Value.int IntKind.i64 (lo : Int) else if s = 31 then Value.int IntKind.i64 (hi : Int) else z s, _, _, _, _, rfl, Lib.hid ⟨fun _ => rfl, fun _ => rfl, fun _ => rfl, V.2.2.2.1, V.2.2.2.2.1, V.2.2.2.2.2.1, V.2.2.2.2.2.2.1, V.2.2.2.2.2.2.2.1, V.2.2.2.2.2.2.2.2⟩, Lib.hid (HW.out.trans (kz.mono (by omega))), Lib.hid ⟨fun _ => ow.mono hsz9, fun e => ⟨(x2 e).1, own_at (x2 e).2 kz⟩, fun e e' => by
              obtain ⟨g, q1, q2, q3⟩ := x3 e e'
              exact ⟨g, q1, q2, (kz.cell (World.block_lt_of_cell? wy _ q3)).trans q3⟩, fun e => (x4 e).below (by omega) kz, fun e => absurd (b11.symm.trans e) (by decide), x6⟩⟩
        · rintro b a wy hb hd ⟨z, z7, z32, z38, z39, rfl, HV, HW, HX⟩ K hK
          clear hd
          go_simp
          have V := HV.out
          exact hK _ _ ⟨fun s => if s = 33 then .pointer (some ⟨w.heap.size, 2, none⟩) else z s, _, _, _, _, rfl, Lib.hid ⟨V.1, V.2.1, V.2.2.1, fun _ => rfl, V.2.2.2.2.1, V.2.2.2.2.2.1, V.2.2.2.2.2.2.1, V.2.2.2.2.2.2.2.1, V.2.2.2.2.2.2.2.2⟩, HW, HX⟩
        · rintro b a wy hb hd ⟨z, z7, z32, z38, z39, rfl, HV, HW, HX⟩ K hK
          simp [Region.binds] at hd
          have e4 : (z 33) = .pointer (some ⟨w.heap.size, 2, none⟩) := (HV.out.2.2.2.1) (by simp [hd])
          clear hd
          have hbx := HBX3.out.below (by omega) HW.out
          have c2 := hbx.cellAt (i := 2) rfl
          clear hbx
          go_simp
          have V := HV.out
          exact hK _ _ ⟨fun s => if s = 34 then .slice B m d else if s = 33 then .pointer (some ⟨w.heap.size, 2, none⟩) else z s, _, _, _, _, rfl, Lib.hid ⟨V.1, V.2.1, V.2.2.1, fun _ => rfl, fun _ => rfl, V.2.2.2.2.2.1, V.2.2.2.2.2.2.1, V.2.2.2.2.2.2.2.1, V.2.2.2.2.2.2.2.2⟩, HW, HX⟩
        · rintro b a wy hb hd ⟨z, z7, z32, z38, z39, rfl, HV, HW, HX⟩ K hK
          clear hd
          go_simp
          have V := HV.out
          exact hK _ _ ⟨fun s => if s = 35 then Value.int IntKind.i64 (lo : Int) else z s, _, _, _, _, rfl, Lib.hid ⟨V.1, V.2.1, V.2.2.1, V.2.2.2.1, V.2.2.2.2.1, fun _ => rfl, V.2.2.2.2.2.2.1, V.2.2.2.2.2.2.2.1, V.2.2.2.2.2.2.2.2⟩, HW, HX⟩
        · rintro b a wy hb hd ⟨z, z7, z32, z38, z39, rfl, HV, HW, HX⟩ K hK
          clear hd
          go_simp
          have V := HV.out
          exact hK _ _ ⟨fun s => if s = 36 then Value.int IntKind.i64 (hi : Int) else z s, _, _, _, _, rfl, Lib.hid ⟨V.1, V.2.1, V.2.2.1, V.2.2.2.1, V.2.2.2.2.1, V.2.2.2.2.2.1, fun _ => rfl, V.2.2.2.2.2.2.2.1, V.2.2.2.2.2.2.2.2⟩, HW, HX⟩
        · rintro b a wy hb hd ⟨z, z7, z32, z38, z39, rfl, HV, HW, HX⟩ K hK
          simp [Region.binds] at hd
          have e5 : (z 34) = .slice B m d := (HV.out.2.2.2.2.1) (by simp [hd])
          have e6 : (z 35) = Value.int IntKind.i64 (lo : Int) := (HV.out.2.2.2.2.2.1) (by simp [hd])
          have e7 : (z 36) = Value.int IntKind.i64 (hi : Int) := (HV.out.2.2.2.2.2.2.1) (by simp [hd])
          clear hd
          go_simp
          have V := HV.out
          exact hK _ _ ⟨fun s => if s = 37 then .slice X (hi - lo) (d - lo) else if s = 34 then .slice B m d else if s = 35 then Value.int IntKind.i64 (lo : Int) else if s = 36 then Value.int IntKind.i64 (hi : Int) else z s, _, _, _, _, rfl, Lib.hid ⟨V.1, V.2.1, V.2.2.1, V.2.2.2.1, fun _ => rfl, fun _ => rfl, fun _ => rfl, fun _ => rfl, V.2.2.2.2.2.2.2.2⟩, HW, HX⟩
        · rintro b a wy hb hd ⟨z, z7, z32, z38, z39, rfl, HV, HW, HX⟩ K hK
          simp [Region.binds] at hd
          have e8 : (z 37) = .slice X (hi - lo) (d - lo) := (HV.out.2.2.2.2.2.2.2.1) (by simp [hd])
          clear hd
          obtain ⟨x1, x2, x3, x4, x5, x6⟩ := HX.out
          have hsz3 : w3.heap.size ≤ wy.heap.size := HW.out.size
          have b10 : b 10 = false := by
              rcases Bool.eq_false_or_eq_true (b 10) with e | e
              · exact absurd (hb.symm.trans (x2 e).1) (by decide)
              · exact e
          have b12 : b 12 = false := by
              rcases Bool.eq_false_or_eq_true (b 12) with e | e
              · exact absurd (hb.symm.trans (x2 (x6 e).1).1) (by decide)
              · exact e
          have hal := Lib.hid (alloc_rowV wy 22 [.slice X (hi - lo) (d - lo)])
          have hbe := Lib.hid ((Below.refl wy.heap.size wy).alloc (Nat.le_refl _) (.cells #[.slice X (hi - lo) (d - lo)] 22))
          go_simp
          have V := HV.out
          exact hK _ _ ⟨fun s => if s = 37 then .slice X (hi - lo) (d - lo) else z s, _, _, _, _, rfl, Lib.hid ⟨V.1, V.2.1, V.2.2.1, V.2.2.2.1, V.2.2.2.2.1, V.2.2.2.2.2.1, V.2.2.2.2.2.2.1, fun _ => rfl, V.2.2.2.2.2.2.2.2⟩, Lib.hid (HW.out.trans (hbe.out.mono (by omega))), Lib.hid ⟨fun e => (x1 e).at hbe.out, fun e => absurd (b10.symm.trans e) (by decide), fun _ _ => ⟨_, rfl, hsz3, hal.out.cellAt rfl⟩, fun e => (x4 e).new _, fun e => ⟨(x5 e).1, (x5 e).2.new _⟩, fun e => absurd (b12.symm.trans e) (by decide)⟩⟩
        · rintro b a wy hb hd ⟨z, z7, z32, z38, z39, rfl, HV, HW, HX⟩ K hK
          simp [Region.binds] at hd
          have dd9 : b 9 = true := by simp [hd]
          clear hd
          obtain ⟨x1, x2, x3, x4, x5, x6⟩ := HX.out
          have hsz9 : w.heap.size + 2 ≤ wy.heap.size := by have := HW.out.size; omega
          have HNy := Lib.hid (HN0.out.below (BB3.out.trans (HW.out.mono (by omega))))
          obtain ⟨g, zz, g0, g1⟩ := x3 dd9 hb
          subst zz
          have b12 : b 12 = false := by
              rcases Bool.eq_false_or_eq_true (b 12) with e | e
              · exact absurd (hb.symm.trans (x6 e).1) (by decide)
              · exact e
          have hvl := HNy.out.vl
          have T1 := Lib.hid (show ∀ r ∈ [Src.mk X (hi - lo) (d - lo) ((vs.drop lo).take (hi - lo))], Src.Told wy r by
              intro r hr
              simp only [List.mem_cons, List.not_mem_nil, or_false] at hr
              subst hr
              exact ⟨HTX.out _ vs hvl HNy.out.vs, by simp; omega⟩)
          have C1 := concat_any wy g 1 [Src.mk X (hi - lo) (d - lo) ((vs.drop lo).take (hi - lo))] rfl (fun q hq => by
              match q, hq with
              | 0, _ => exact g1) T1.out (by simp [total]; omega) (by omega)
          go_simp
          go_at_call 40
          refine (C1).mono ?_
          rintro e wz ⟨v, rfl, ow, kz⟩
          try go_simp
          have V := HV.out
          exact hK _ _ ⟨fun s => z s, _, _, _, _, rfl, Lib.hid ⟨V.1, V.2.1, V.2.2.1, V.2.2.2.1, V.2.2.2.2.1, V.2.2.2.2.2.1, V.2.2.2.2.2.2.1, V.2.2.2.2.2.2.2.1, V.2.2.2.2.2.2.2.2⟩, Lib.hid (HW.out.trans (kz.mono (by omega))), Lib.hid ⟨fun e => (x1 e).at kz, fun _ => ⟨dd9, by have := own_mono ow hsz9; simpa [flat] using this⟩, fun _ e => (by cases e), fun e => (x4 e).below (by omega) kz, fun e => ⟨(x5 e).1, (x5 e).2.below (by omega) kz⟩, fun e => absurd (b12.symm.trans e) (by decide)⟩⟩
        · rintro b a wy hb hd ⟨z, z7, z32, z38, z39, rfl, HV, HW, HX⟩ K hK
          simp [Region.binds] at hd
          have dd3 : b 3 = true := by simp [hd]
          clear hd
          obtain ⟨x1, x2, x3, x4, x5, x6⟩ := HX.out
          have hr := x4 hb
          refine if_wanted (by rfl) (wp_store_d (.tmp 6) (.tmp 32) rfl (w.heap.size + 1) (w.heap.size + 2) z32 _ true (cutIn ks lo hi []) (cutIn vs lo hi []) rfl rfl hr (x1 dd3) (fun cs HC => ?_))
          have V := HV.out
          exact hK _ _ ⟨fun s => z s, _, _, _, _, rfl, Lib.hid ⟨V.1, V.2.1, V.2.2.1, V.2.2.2.1, V.2.2.2.2.1, V.2.2.2.2.2.1, V.2.2.2.2.2.2.1, V.2.2.2.2.2.2.2.1, V.2.2.2.2.2.2.2.2⟩, Lib.hid (HW.out.trans (row_below _ (Nat.le_refl _))), Lib.hid ⟨fun e => (x1 e).row _ (by omega), fun e => ⟨(x2 e).1, own_row (x2 e).2 _ (by omega)⟩, fun e e' => by
              obtain ⟨g, q1, q2, q3⟩ := x3 e e'
              exact ⟨g, q1, q2, (World.cell?_of_block (setRow_other _ _ _ _ (by show g ≠ _; omega))).trans q3⟩, fun e => (by cases e), fun _ => ⟨dd3, HC⟩, x6⟩⟩
        · rintro b a wy hb hd ⟨z, z7, z32, z38, z39, rfl, HV, HW, HX⟩ K hK
          simp [Region.binds] at hd
          have dd10 : b 10 = true := by simp [hd]
          clear hd
          obtain ⟨x1, x2, x3, x4, x5, x6⟩ := HX.out
          go_simp
          have V := HV.out
          exact hK _ _ ⟨fun s => z s, _, _, _, _, rfl, Lib.hid ⟨V.1, V.2.1, V.2.2.1, V.2.2.2.1, V.2.2.2.2.1, V.2.2.2.2.2.1, V.2.2.2.2.2.2.1, V.2.2.2.2.2.2.2.1, V.2.2.2.2.2.2.2.2⟩, HW, Lib.hid ⟨x1, x2, x3, x4, x5, fun _ => ⟨dd10, rfl⟩⟩⟩
        · rintro b a wy hb hd ⟨z, z7, z32, z38, z39, rfl, HV, HW, HX⟩ K hK
          clear hd
          go_simp
          have V := HV.out
          exact hK _ _ ⟨fun s => if s = 8 then .int .i64 0 else z s, _, _, _, _, rfl, Lib.hid ⟨V.1, V.2.1, V.2.2.1, V.2.2.2.1, V.2.2.2.2.1, V.2.2.2.2.2.1, V.2.2.2.2.2.2.1, V.2.2.2.2.2.2.2.1, fun _ => rfl⟩, HW, HX⟩
      case doneD =>
        rintro b a w9 hb ⟨z, z7, z32, z38, z39, rfl, HV, HW, HX⟩
        have e0 := (HV.out.1) (hb 0)
        have e1 := (HV.out.2.1) (hb 1)
        have e2 := (HV.out.2.2.1) (hb 2)
        have e4 := (HV.out.2.2.2.1) (hb 4)
        have e5 := (HV.out.2.2.2.2.1) (hb 5)
        have e6 := (HV.out.2.2.2.2.2.1) (hb 6)
        have e7 := (HV.out.2.2.2.2.2.2.1) (hb 7)
        have e8 := (HV.out.2.2.2.2.2.2.2.1) (hb 8)
        have e13 := (HV.out.2.2.2.2.2.2.2.2) (hb 13)
        simp only [e0, e1, e2, e4, e5, e6, e7, e8, e13]
        clear HV e0 e1 e2 e4 e5 e6 e7 e8 e13
        obtain ⟨x1, x2, _, _, x5, x6⟩ := HX.out
        have H9 := Lib.hid (And.intro (x1 (hb 3)) (x2 (hb 10)).2)
        have HR9 := Lib.hid (x5 (hb 11)).2
        have HB9 := Lib.hid (BB3.out.trans (HW.out.mono (by omega)))
        obtain rfl := (x6 (hb 12)).2
        clear x1 x2 x5 x6 HX HW hb
        go_wp2_with fail
        have h1 := H9.out.1.mono (base' := w.heap.size) (by omega)
        have h2 := own_mono (base' := w.heap.size) H9.out.2 (by omega)
        rw [HHI.out, HLO.out] at h1 h2
        exact bodyPost_ret (v := _) (res_node rfl _ rfl HR9.out) rfl ⟨_, _, rfl, h1, h2, HB9.out⟩
  · rw [decide_eq_false hok]
    obtain rfl : t = (zn, [], 30) := by rw [HT.out]; unfold cutR; rw [if_neg (fun h => hok h.1)]
    go_wp2_with (first | (refine wpList_build_as rfl 24 #[] rfl #[.bool false, .slice none 0 0, .slice none 0 0] (by simp [Act.eval]; exact node_bare) ?_) | (refine wpList_store_d rfl (.tmp 6) (.tmp 20) rfl (w.heap.size + 1) 0 zeroD _ false [] [] rfl rfl HR2.out (own_zero _ _) ?_; intro cs HC))
    exact bodyPost_ret (v := _) (res_node rfl _ rfl HC) rfl ⟨_, _, rfl, own_zero _ _, own_nil _ _, BB2.out.trans (row_below cs (by omega))⟩

end Go.Proofs.Ytllopocekegljaa.No
