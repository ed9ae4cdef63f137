/- Layer 12, the reference: the contract of Put. (Written by bin/gen_nrh.py.) -/
import Derived.Test.YtllopocekegljaaNrG
namespace Go.Proofs.Ytllopocekegljaa.No
open Go.RowKit Go.Proofs.Ytllopocekegljaa.Oct Go.Proofs.Ytllopocekegljaa.Lf Go.Proofs.Ytllopocekegljaa.Mv
set_option linter.unusedVariables false
set_option linter.unusedSimpArgs false

theorem own_lone (w : World) (x : UInt64) {base : Nat} (hb : base ≤ w.heap.size) : OwnN (w.alloc (.cells #[.int .u64 (x.toNat : Int)] 25)) base (.slice (some ⟨w.heap.size, 0, none⟩) 1 1) [x] :=
  World.ownsRow_lit w #[.int .u64 (x.toNat : Int)] 1 hb (by decide) rfl
theorem node_pair (l : Bool) (g1 g2 : Nat) : Try.prog.built 24 [(0, .bool l), (1, .slice (some ⟨g1, 0, none⟩) 1 1), (2, .slice (some ⟨g2, 0, none⟩) 1 1)] = some #[.bool l, .slice (some ⟨g1, 0, none⟩) 1 1, .slice (some ⟨g2, 0, none⟩) 1 1] := by kernel_rfl

set_option maxRecDepth 100000 in
set_option maxHeartbeats 4000000 in
theorem rput_any (l : Bool) {w : World} {A B : Option Addr} {n c m d : Nat} {ks vs : List UInt64} (h : Nd w A n c B m d ks vs) (k x : UInt64) (t : PN × Bool × Nat) (ht : t = putR l ks vs k x) :
    Calls Try.prog 15 #[.agg #[.bool l, .slice A n c, .slice B m d], .int .u64 (k.toNat : Int), .int .u64 (x.toNat : Int)] w fun e w' => ∃ v, e = .returned (.tuple #[v, .bool t.2.1, .int .i64 (t.2.2 : Nat)]) ∧ OwnD w' w.heap.size v t.1.1 t.1.2.1 t.1.2.2 ∧ Below w.heap.size w w' := by
  have b1 := (Below.refl w.heap.size w).alloc (Nat.le_refl _) (.cells #[.bool l, .slice A n c, .slice B m d] 24)
  have BB := Lib.hid (b1.alloc b1.size (.cells #[.bool false, .slice none 0 0, .slice none 0 0] 24))
  have HBX := Lib.hid ((box_row w l A n c B m d).below (by simp) ((Below.refl _ _).alloc (Nat.le_refl _) (.cells #[.bool false, .slice none 0 0, .slice none 0 0] 24)))
  have HR := Lib.hid (box_d (w.alloc (.cells #[.bool l, .slice A n c, .slice B m d] 24)) (.bool false) (.slice none 0 0) (.slice none 0 0))
  rw [show (w.alloc (.cells #[.bool l, .slice A n c, .slice B m d] 24)).heap.size = w.heap.size + 1 by simp] at HR
  have HN := Lib.hid (h.below BB.out)
  have kl := h.kl
  have HT := Lib.hid ht
  have hz := node_zero
  have hs2 : ((w.alloc (.cells #[.bool l, .slice A n c, .slice B m d] 24)).alloc (.cells #[.bool false, .slice none 0 0, .slice none 0 0] 24)).heap.size = w.heap.size + 2 := by simp
  have HN0 := Lib.hid h
  clear h ht b1
  go_enter Try.func15, Try.ntmps15
  go_wp2_with fail
  generalize (w.alloc (.cells #[.bool l, .slice A n c, .slice B m d] 24)).alloc (.cells #[.bool false, .slice none 0 0, .slice none 0 0] 24) = w1 at *
  refine (rright_any l HN.out).mono ?_
  rintro e w2 ⟨rfl, B2⟩
  have BB2 := Lib.hid (BB.out.trans (B2.mono BB.out.size))
  have HBX2 := Lib.hid (HBX.out.below HBX.out.lt B2)
  have HR2 := Lib.hid (HR.out.below HR.out.lt B2)
  have HN2 := Lib.hid (HN.out.below B2)
  have hw2 : w.heap.size + 2 ≤ w2.heap.size := by have := B2.size; omega
  clear B2
  by_cases hok : Ok l ks vs
  · rw [decide_eq_true hok]
    obtain rfl : m = n := by rw [← HN.out.vl, ← kl]; exact hok.2.1
    have h7 := hok.1
    have HK := Lib.hid hok
    have E := Lib.hid (show t = (if k ∉ ks ∧ ks.length = 7 then (zn, false, 120) else ((l, cutIn ks (low ks k) (upto ks k) [k], cutIn vs (low ks k) (upto ks k) [x]), decide (k ∈ ks), 0)) by rw [HT.out]; unfold putR; rw [if_pos hok])
    clear hok
    have c0 := HBX2.out.cellAt (i := 0) rfl
    have O1 := Lib.hid ((own_lone w2 k (base := w.heap.size + 2) hw2).alloc (.cells #[.int .u64 (x.toNat : Int)] 25))
    have O2 := Lib.hid (own_lone (w2.alloc (.cells #[.int .u64 (k.toNat : Int)] 25)) x (base := w.heap.size + 2) (by simp; omega))
    have q1 := (Below.refl w2.heap.size w2).alloc (Nat.le_refl _) (.cells #[.int .u64 (k.toNat : Int)] 25)
    have q2 := q1.alloc q1.size (.cells #[.int .u64 (x.toNat : Int)] 25)
    have B3 := q2.alloc q2.size (.cells #[.bool l, .slice (some ⟨w2.heap.size, 0, none⟩) 1 1, .slice (some ⟨w2.heap.size + 1, 0, none⟩) 1 1] 24)
    have RXB := Lib.hid (box_d ((w2.alloc (.cells #[.int .u64 (k.toNat : Int)] 25)).alloc (.cells #[.int .u64 (x.toNat : Int)] 25)) (.bool l) (.slice (some ⟨w2.heap.size, 0, none⟩) 1 1) (.slice (some ⟨w2.heap.size + 1, 0, none⟩) 1 1))
    rw [show (w2.alloc (.cells #[.int .u64 (k.toNat : Int)] 25)).heap.size = w2.heap.size + 1 by simp] at O2
    rw [show ((w2.alloc (.cells #[.int .u64 (k.toNat : Int)] 25)).alloc (.cells #[.int .u64 (x.toNat : Int)] 25)).heap.size = w2.heap.size + 2 by simp] at RXB
    have O3 := Lib.hid (show OwnD (((w2.alloc (.cells #[.int .u64 (k.toNat : Int)] 25)).alloc (.cells #[.int .u64 (x.toNat : Int)] 25)).alloc (.cells #[.bool l, .slice (some ⟨w2.heap.size, 0, none⟩) 1 1, .slice (some ⟨w2.heap.size + 1, 0, none⟩) 1 1] 24)) (w.heap.size + 2) (.agg #[.bool l, .slice (some ⟨w2.heap.size, 0, none⟩) 1 1, .slice (some ⟨w2.heap.size + 1, 0, none⟩) 1 1]) l [k] [x] from ⟨_, _, rfl, World.ownsRow.alloc O1.out _, World.ownsRow.alloc O2.out _⟩)
    clear q1 q2 O1 O2
    go_upto_region 4 with (fail)
    generalize ((w2.alloc (.cells #[.int .u64 (k.toNat : Int)] 25)).alloc (.cells #[.int .u64 (x.toNat : Int)] 25)).alloc (.cells #[.bool l, .slice (some ⟨w2.heap.size, 0, none⟩) 1 1, .slice (some ⟨w2.heap.size + 1, 0, none⟩) 1 1] 24) = w3 at *
    have BB3 := Lib.hid (BB2.out.trans (B3.mono BB2.out.size))
    have HBX3 := Lib.hid (HBX2.out.below HBX2.out.lt B3)
    have HR3 := Lib.hid (HR2.out.below HR2.out.lt B3)
    have HN3 := Lib.hid (HN2.out.below B3)
    have hw3 : w.heap.size + 2 ≤ w3.heap.size := by have := B3.size; omega
    clear B3
    obtain ⟨g1, hg1⟩ : ∃ q, w2.heap.size = q := ⟨_, rfl⟩
    have hg1w : w.heap.size + 2 ≤ g1 := by omega
    rw [hg1] at RXB O3 ⊢
    clear hg1 c0
    obtain ⟨one, hone⟩ : ∃ q, Value.agg #[.bool l, .slice (some ⟨g1, 0, none⟩) 1 1, .slice (some ⟨g1 + 1, 0, none⟩) 1 1] = q := ⟨_, rfl⟩
    rw [hone] at RXB O3
    have HONE := Lib.hid hone
    clear hone
    go_wp2_with (first | (refine wpList_load_d rfl (.tmp 3) rfl w.heap.size _ rfl (row_d HBX3.out) ?_))
    refine (rplace_any l HN3.out HK.out.2.2.1 (by omega) k).mono ?_
    rintro e w4 ⟨rfl, B4⟩
    replace RXB := Lib.hid (RXB.out.below RXB.out.lt B4)
    replace O3 := Lib.hid (O3.out.at B4)
    have BB4 := Lib.hid (BB3.out.trans (B4.mono BB3.out.size))
    have HBX4 := Lib.hid (HBX3.out.below HBX3.out.lt B4)
    have HR4 := Lib.hid (HR3.out.below HR3.out.lt B4)
    have HN4 := Lib.hid (HN3.out.below B4)
    have hw4 : w.heap.size + 2 ≤ w4.heap.size := by have := B4.size; omega
    clear B4
    have l1 := low_le ks k
    have c0 := HBX4.out.cellAt (i := 0) rfl
    have c1 := HBX4.out.cellAt (i := 1) rfl
    by_cases hk : k ∈ ks
    · have hpl : plR ks k = ((low ks k : Nat) : Int) := if_pos hk
      have hlk := low_lt hk
      rw [hpl]
      clear hpl
      have hng : (0 : Int) ≤ ((low ks k : Nat) : Int) := by omega
      have E2 := E.out
      rw [if_neg (fun h => h.1 hk), decide_eq_true hk, upto_in hk, cut_mids HN0.out.kl, cut_mids HN0.out.vl] at E2
      subst E2
      obtain ⟨q, hq⟩ : ∃ q, low ks k = q := ⟨_, rfl⟩
      rw [hq] at hlk hng ⊢
      have HQ := Lib.hid hq
      have hql : q < m := by omega
      have hL1 := mids_length (i := 0) (j := q) kl (by omega)
      have hL2 := mids_length (i := 0) (j := q) HN0.out.vl (by omega)
      have hL3 := mids_length (i := q + 1) (j := m) kl (Nat.le_refl _)
      have hL4 := mids_length (i := q + 1) (j := m) HN0.out.vl (Nat.le_refl _)
      have HLS := Lib.hid (And.intro hL1 (And.intro hL2 (And.intro hL3 hL4)))
      clear hL1 hL2 hL3 hL4
      clear hq l1 hlk E c0 c1
      go_upto_region 6 with (fail)
      refine Inv2.wp_region_inv (fun b a wy => ∃ (z : Nat → Value) (z29 : Value) (z31 : Value) (z38 : Value) (z39 : Value), a = ⟨(List.toArray (Value.agg #[Value.bool l, Value.slice A m c, Value.slice B m d] :: Value.int IntKind.u64 ↑k.toNat :: Value.int IntKind.u64 ↑x.toNat :: Value.pointer (some ⟨w.heap.size, 0, none⟩) :: undef :: undef :: Value.pointer (some ⟨w.heap.size + 1, 0, none⟩) :: (z 7) :: (z 8) :: Value.pointer (some ⟨g1 + 1 + 1, 0, none⟩) :: Value.int IntKind.i64 (q : Int) :: Value.agg #[Value.bool l, Value.slice A m c, Value.slice B m d] :: Value.bool true :: Value.bool false :: undef :: Value.pointer (some ⟨w.heap.size, 0, none⟩) :: Value.bool l :: Value.int IntKind.u64 ↑k.toNat :: Value.slice (some ⟨g1, 0, none⟩) 1 1 :: Value.int IntKind.u64 ↑x.toNat :: Value.slice (some ⟨g1 + 1, 0, none⟩) 1 1 :: Value.agg #[Value.bool l, Value.slice (some ⟨g1, 0, none⟩) 1 1, Value.slice (some ⟨g1 + 1, 0, none⟩) 1 1] :: Value.agg #[Value.bool l, Value.slice A m c, Value.slice B m d] :: Value.int IntKind.u64 ↑k.toNat :: Value.int IntKind.i64 (q : Int) :: Value.int IntKind.i64 (q : Int) :: Value.bool true :: (z 27) :: (z 28) :: z29 :: (z 30) :: z31 :: (z 32) :: (z 33) :: (z 34) :: (z 35) :: (z 36) :: (z 37) :: z38 :: z39 :: undef :: undef :: undef :: undef :: undef :: undef :: undef :: undef :: undef :: undef :: undef :: undef :: undef :: undef :: undef :: undef :: undef :: undef :: undef :: undef :: undef :: undef :: undef :: undef :: undef :: undef :: undef :: undef :: undef :: undef :: undef :: undef :: undef :: [])), []⟩ ∧ Hid ((b 0 = true → (z 27) = .agg #[.bool l, .slice A m c, .slice B m d]) ∧ (b 1 = true → (z 28) = Value.int IntKind.i64 (q : Int)) ∧ (b 3 = true → (z 30) = one) ∧ (b 5 = true → (z 32) = .agg #[.bool l, .slice A m c, .slice B m d]) ∧ (b 6 = true → (z 33) = Value.int IntKind.i64 (q : Int)) ∧ (b 7 = true → (z 34) = .int .i64 ((q : Int) + 1)) ∧ (b 8 = true → (z 35) = .pointer (some ⟨w.heap.size, 1, none⟩)) ∧ (b 9 = true → (z 36) = .slice A m c) ∧ (b 10 = true → (z 37) = .int .i64 (m : Int)) ∧ (b 14 = true → (z 7) = Value.bool true) ∧ (b 15 = true → (z 8) = .int .i64 0)) ∧ Hid (Below (w.heap.size + 1) w4 wy) ∧ Hid ((b 2 = true → OwnD wy (w.heap.size + 2) z29 l (mids ks 0 q) (mids vs 0 q)) ∧ (b 4 = true → OwnD wy (w.heap.size + 2) z31 l (mids ks 0 q ++ [k]) (mids vs 0 q ++ [x])) ∧ (b 11 = true → OwnD wy (w.heap.size + 2) z38 l (mids ks (q + 1) m) (mids vs (q + 1) m)) ∧ (b 12 = true → OwnD wy (w.heap.size + 2) z39 l (mids ks 0 q ++ [k] ++ mids ks (q + 1) m) (mids vs 0 q ++ [x] ++ mids vs (q + 1) m)) ∧ (b 13 = false → BoxD wy (w.heap.size + 1) zeroD) ∧ (b 13 = true → b 12 = true ∧ BoxD wy (w.heap.size + 1) z39) ∧ BoxD wy (g1 + 2) one ∧ OwnD wy (w.heap.size + 2) one l [k] [x])) (by kernel_rfl) (by kernel_rfl) ?startD ?stepsD ?doneD
      case startD =>
        intro b hb
        refine ⟨fun s => if s = 7 then Value.bool false else if s = 8 then Value.int IntKind.i64 0 else undef, undef, undef, undef, undef, rfl, Lib.hid ⟨?_, ?_, ?_, ?_, ?_, ?_, ?_, ?_, ?_, ?_, ?_⟩, Lib.hid ((show Still w4 w4.drew from ⟨rfl, rfl, rfl, rfl⟩).below _), Lib.hid (⟨(fun e => by rw [hb _ (by decide)] at e; cases e), (fun e => by rw [hb _ (by decide)] at e; cases e), (fun e => by rw [hb _ (by decide)] at e; cases e), (fun e => by rw [hb _ (by decide)] at e; cases e), fun _ => HR4.out, (fun e => by rw [hb _ (by decide)] at e; cases e), RXB.out.below RXB.out.lt ((show Still w4 w4.drew from ⟨rfl, rfl, rfl, rfl⟩).below _), O3.out.at ((show Still w4 w4.drew from ⟨rfl, rfl, rfl, rfl⟩).below _)⟩)⟩
        all_goals (intro e; first | rfl | (rw [hb _ (by decide)] at e; cases e))
      case stepsD =>
        refine ⟨?_, ?_, ?_, ?_, ?_, ?_, ?_, ?_, ?_, ?_, ?_, ?_, ?_, ?_, ?_, ?_, trivial⟩
        · rintro b a wy hb hd ⟨z, z29, z31, z38, z39, rfl, HV, HW, HX⟩ K hK
          clear hd
          have hbx := HBX4.out.below (by omega) HW.out
          refine if_wanted (by rfl) (wp_load_d (.tmp 3) rfl w.heap.size _ rfl (row_d hbx) ?_)
          have V := HV.out
          exact hK _ _ ⟨fun s => if s = 27 then .agg #[.bool l, .slice A m c, .slice B m d] else z s, _, _, _, _, rfl, Lib.hid ⟨fun _ => rfl, V.2.1, V.2.2.1, V.2.2.2.1, V.2.2.2.2.1, V.2.2.2.2.2.1, V.2.2.2.2.2.2.1, V.2.2.2.2.2.2.2.1, V.2.2.2.2.2.2.2.2.1, V.2.2.2.2.2.2.2.2.2.1, V.2.2.2.2.2.2.2.2.2.2⟩, HW, HX⟩
        · rintro b a wy hb hd ⟨z, z29, z31, z38, z39, rfl, HV, HW, HX⟩ K hK
          clear hd
          go_simp
          have V := HV.out
          exact hK _ _ ⟨fun s => if s = 28 then Value.int IntKind.i64 (q : Int) else z s, _, _, _, _, rfl, Lib.hid ⟨V.1, fun _ => rfl, V.2.2.1, V.2.2.2.1, V.2.2.2.2.1, V.2.2.2.2.2.1, V.2.2.2.2.2.2.1, V.2.2.2.2.2.2.2.1, V.2.2.2.2.2.2.2.2.1, V.2.2.2.2.2.2.2.2.2.1, V.2.2.2.2.2.2.2.2.2.2⟩, HW, HX⟩
        · rintro b a wy hb hd ⟨z, z29, z31, z38, z39, rfl, HV, HW, HX⟩ K hK
          simp [Region.binds] at hd
          have e0 : (z 27) = .agg #[.bool l, .slice A m c, .slice B m d] := (HV.out.1) (by simp [hd])
          have e1 : (z 28) = Value.int IntKind.i64 (q : Int) := (HV.out.2.1) (by simp [hd])
          clear hd
          obtain ⟨x1, x2, x3, x4, x5, x6, x7, x8⟩ := HX.out
          have hsz9 : w.heap.size + 2 ≤ wy.heap.size := by have := HW.out.size; omega
          have HNy := Lib.hid (HN0.out.below (BB4.out.trans (HW.out.mono (by omega))))
          have C1 := part_any l HNy.out 0 q (Nat.zero_le _) (by omega) (by omega)
          go_simp
          go_at_call 36
          refine (C1).mono ?_
          rintro e wz ⟨v, rfl, ow, kz⟩
          try go_simp
          have V := HV.out
          exact hK _ _ ⟨fun s => if s = 27 then .agg #[.bool l, .slice A m c, .slice B m d] else if s = 28 then Value.int IntKind.i64 (q : Int) else z s, _, _, _, _, rfl, Lib.hid ⟨fun _ => rfl, fun _ => rfl, V.2.2.1, V.2.2.2.1, V.2.2.2.2.1, V.2.2.2.2.2.1, V.2.2.2.2.2.2.1, V.2.2.2.2.2.2.2.1, V.2.2.2.2.2.2.2.2.1, V.2.2.2.2.2.2.2.2.2.1, V.2.2.2.2.2.2.2.2.2.2⟩, Lib.hid (HW.out.trans (kz.mono (by omega))), Lib.hid ⟨fun _ => ow.d.mono hsz9, fun e => (x2 e).at kz, fun e => (x3 e).at kz, fun e => (x4 e).at kz, fun e => (x5 e).below (by omega) kz, fun e => ⟨(x6 e).1, (x6 e).2.below (by omega) kz⟩, x7.below x7.lt kz, x8.at kz⟩⟩
        · rintro b a wy hb hd ⟨z, z29, z31, z38, z39, rfl, HV, HW, HX⟩ K hK
          clear hd
          obtain ⟨x1, x2, x3, x4, x5, x6, x7, x8⟩ := HX.out
          refine if_wanted (by rfl) (wp_load_d (.tmp 9) rfl (g1 + 2) _ rfl x7 ?_)
          have V := HV.out
          exact hK _ _ ⟨fun s => if s = 30 then one else z s, _, _, _, _, rfl, Lib.hid ⟨V.1, V.2.1, fun _ => rfl, V.2.2.2.1, V.2.2.2.2.1, V.2.2.2.2.2.1, V.2.2.2.2.2.2.1, V.2.2.2.2.2.2.2.1, V.2.2.2.2.2.2.2.2.1, V.2.2.2.2.2.2.2.2.2.1, V.2.2.2.2.2.2.2.2.2.2⟩, HW, HX⟩
        · rintro b a wy hb hd ⟨z, z29, z31, z38, z39, rfl, HV, HW, HX⟩ K hK
          simp [Region.binds] at hd
          have dd2 : b 2 = true := by simp [hd]
          have e3 : (z 30) = one := (HV.out.2.2.1) (by simp [hd])
          clear hd
          obtain ⟨x1, x2, x3, x4, x5, x6, x7, x8⟩ := HX.out
          have hsz9 : w.heap.size + 2 ≤ wy.heap.size := by have := HW.out.size; omega
          obtain ⟨A1, k1, B1, d1, e91, n1⟩ := (x1 dd2).ex HLS.out.1 HLS.out.2.1
          obtain ⟨A2, k2, B2, d2, e92, n2⟩ := x8.ex (n := 1) (m := 1) rfl rfl
          subst e91
          have C1 := both_any l l n1 n2 (by omega) (by omega) (by omega)
          rw [← e92] at C1
          clear e92 n2
          go_simp
          go_at_call 35
          refine (C1).mono ?_
          rintro e wz ⟨v, rfl, ow, kz⟩
          try go_simp
          have V := HV.out
          exact hK _ _ ⟨fun s => if s = 30 then one else z s, _, _, _, _, rfl, Lib.hid ⟨V.1, V.2.1, fun _ => rfl, V.2.2.2.1, V.2.2.2.2.1, V.2.2.2.2.2.1, V.2.2.2.2.2.2.1, V.2.2.2.2.2.2.2.1, V.2.2.2.2.2.2.2.2.1, V.2.2.2.2.2.2.2.2.2.1, V.2.2.2.2.2.2.2.2.2.2⟩, Lib.hid (HW.out.trans (kz.mono (by omega))), Lib.hid ⟨fun e => (x1 e).at kz, fun _ => ow.d.mono hsz9, fun e => (x3 e).at kz, fun e => (x4 e).at kz, fun e => (x5 e).below (by omega) kz, fun e => ⟨(x6 e).1, (x6 e).2.below (by omega) kz⟩, x7.below x7.lt kz, x8.at kz⟩⟩
        · rintro b a wy hb hd ⟨z, z29, z31, z38, z39, rfl, HV, HW, HX⟩ K hK
          clear hd
          have hbx := HBX4.out.below (by omega) HW.out
          refine if_wanted (by rfl) (wp_load_d (.tmp 3) rfl w.heap.size _ rfl (row_d hbx) ?_)
          have V := HV.out
          exact hK _ _ ⟨fun s => if s = 32 then .agg #[.bool l, .slice A m c, .slice B m d] else z s, _, _, _, _, rfl, Lib.hid ⟨V.1, V.2.1, V.2.2.1, fun _ => rfl, V.2.2.2.2.1, V.2.2.2.2.2.1, V.2.2.2.2.2.2.1, V.2.2.2.2.2.2.2.1, V.2.2.2.2.2.2.2.2.1, V.2.2.2.2.2.2.2.2.2.1, V.2.2.2.2.2.2.2.2.2.2⟩, HW, HX⟩
        · rintro b a wy hb hd ⟨z, z29, z31, z38, z39, rfl, HV, HW, HX⟩ K hK
          clear hd
          go_simp
          have V := HV.out
          exact hK _ _ ⟨fun s => if s = 33 then Value.int IntKind.i64 (q : Int) else z s, _, _, _, _, rfl, Lib.hid ⟨V.1, V.2.1, V.2.2.1, V.2.2.2.1, fun _ => rfl, V.2.2.2.2.2.1, V.2.2.2.2.2.2.1, V.2.2.2.2.2.2.2.1, V.2.2.2.2.2.2.2.2.1, V.2.2.2.2.2.2.2.2.2.1, V.2.2.2.2.2.2.2.2.2.2⟩, HW, HX⟩
        · rintro b a wy hb hd ⟨z, z29, z31, z38, z39, rfl, HV, HW, HX⟩ K hK
          simp [Region.binds] at hd
          have e6 : (z 33) = Value.int IntKind.i64 (q : Int) := (HV.out.2.2.2.2.1) (by simp [hd])
          clear hd
          have hwq : IntKind.i64.wrap ((q : Int) + 1) = (q : Int) + 1 := IntWalk.i64_in _ (by omega)
          go_simp
          have V := HV.out
          exact hK _ _ ⟨fun s => if s = 34 then .int .i64 ((q : Int) + 1) else if s = 33 then Value.int IntKind.i64 (q : Int) else z s, _, _, _, _, rfl, Lib.hid ⟨V.1, V.2.1, V.2.2.1, V.2.2.2.1, fun _ => rfl, fun _ => rfl, V.2.2.2.2.2.2.1, V.2.2.2.2.2.2.2.1, V.2.2.2.2.2.2.2.2.1, V.2.2.2.2.2.2.2.2.2.1, V.2.2.2.2.2.2.2.2.2.2⟩, HW, HX⟩
        · rintro b a wy hb hd ⟨z, z29, z31, z38, z39, rfl, HV, HW, HX⟩ K hK
          clear hd
          go_simp
          have V := HV.out
          exact hK _ _ ⟨fun s => if s = 35 then .pointer (some ⟨w.heap.size, 1, none⟩) else z s, _, _, _, _, rfl, Lib.hid ⟨V.1, V.2.1, V.2.2.1, V.2.2.2.1, V.2.2.2.2.1, V.2.2.2.2.2.1, fun _ => rfl, V.2.2.2.2.2.2.2.1, V.2.2.2.2.2.2.2.2.1, V.2.2.2.2.2.2.2.2.2.1, V.2.2.2.2.2.2.2.2.2.2⟩, HW, HX⟩
        · rintro b a wy hb hd ⟨z, z29, z31, z38, z39, rfl, HV, HW, HX⟩ K hK
          simp [Region.binds] at hd
          have e8 : (z 35) = .pointer (some ⟨w.heap.size, 1, none⟩) := (HV.out.2.2.2.2.2.2.1) (by simp [hd])
          clear hd
          have hbx := HBX4.out.below (by omega) HW.out
          have c1 := hbx.cellAt (i := 1) rfl
          clear hbx
          go_simp
          have V := HV.out
          exact hK _ _ ⟨fun s => if s = 36 then .slice A m c else if s = 35 then .pointer (some ⟨w.heap.size, 1, none⟩) else z s, _, _, _, _, rfl, Lib.hid ⟨V.1, V.2.1, V.2.2.1, V.2.2.2.1, V.2.2.2.2.1, V.2.2.2.2.2.1, fun _ => rfl, fun _ => rfl, V.2.2.2.2.2.2.2.2.1, V.2.2.2.2.2.2.2.2.2.1, V.2.2.2.2.2.2.2.2.2.2⟩, HW, HX⟩
        · rintro b a wy hb hd ⟨z, z29, z31, z38, z39, rfl, HV, HW, HX⟩ K hK
          simp [Region.binds] at hd
          have e9 : (z 36) = .slice A m c := (HV.out.2.2.2.2.2.2.2.1) (by simp [hd])
          clear hd
          go_simp
          have V := HV.out
          exact hK _ _ ⟨fun s => if s = 37 then .int .i64 (m : Int) else if s = 36 then .slice A m c else z s, _, _, _, _, rfl, Lib.hid ⟨V.1, V.2.1, V.2.2.1, V.2.2.2.1, V.2.2.2.2.1, V.2.2.2.2.2.1, V.2.2.2.2.2.2.1, fun _ => rfl, fun _ => rfl, V.2.2.2.2.2.2.2.2.2.1, V.2.2.2.2.2.2.2.2.2.2⟩, HW, HX⟩
        · rintro b a wy hb hd ⟨z, z29, z31, z38, z39, rfl, HV, HW, HX⟩ K hK
          simp [Region.binds] at hd
          have e5 : (z 32) = .agg #[.bool l, .slice A m c, .slice B m d] := (HV.out.2.2.2.1) (by simp [hd])
          have e7 : (z 34) = .int .i64 ((q : Int) + 1) := (HV.out.2.2.2.2.2.1) (by simp [hd])
          have e10 : (z 37) = .int .i64 (m : Int) := (HV.out.2.2.2.2.2.2.2.2.1) (by simp [hd])
          clear hd
          obtain ⟨x1, x2, x3, x4, x5, x6, x7, x8⟩ := HX.out
          have hsz9 : w.heap.size + 2 ≤ wy.heap.size := by have := HW.out.size; omega
          have HNy := Lib.hid (HN0.out.below (BB4.out.trans (HW.out.mono (by omega))))
          have C1 := part_any l HNy.out (q + 1) m (by omega) (Nat.le_refl _) (by omega)
          rw [show (((q + 1 : Nat)) : Int) = (q : Int) + 1 by omega] at C1
          go_simp
          go_at_call 36
          refine (C1).mono ?_
          rintro e wz ⟨v, rfl, ow, kz⟩
          try go_simp
          have V := HV.out
          exact hK _ _ ⟨fun s => if s = 32 then .agg #[.bool l, .slice A m c, .slice B m d] else if s = 34 then .int .i64 ((q : Int) + 1) else if s = 37 then .int .i64 (m : Int) else z s, _, _, _, _, rfl, Lib.hid ⟨V.1, V.2.1, V.2.2.1, fun _ => rfl, V.2.2.2.2.1, fun _ => rfl, V.2.2.2.2.2.2.1, V.2.2.2.2.2.2.2.1, fun _ => rfl, V.2.2.2.2.2.2.2.2.2.1, V.2.2.2.2.2.2.2.2.2.2⟩, Lib.hid (HW.out.trans (kz.mono (by omega))), Lib.hid ⟨fun e => (x1 e).at kz, fun e => (x2 e).at kz, fun _ => ow.d.mono hsz9, fun e => (x4 e).at kz, fun e => (x5 e).below (by omega) kz, fun e => ⟨(x6 e).1, (x6 e).2.below (by omega) kz⟩, x7.below x7.lt kz, x8.at kz⟩⟩
        · rintro b a wy hb hd ⟨z, z29, z31, z38, z39, rfl, HV, HW, HX⟩ K hK
          simp [Region.binds] at hd
          have dd4 : b 4 = true := by simp [hd]
          have dd11 : b 11 = true := by simp [hd]
          clear hd
          obtain ⟨x1, x2, x3, x4, x5, x6, x7, x8⟩ := HX.out
          have hsz9 : w.heap.size + 2 ≤ wy.heap.size := by have := HW.out.size; omega
          obtain ⟨A1, k1, B1, d1, e91, n1⟩ := (x2 dd4).ex (n := q + 1) (m := q + 1) (by rw [List.length_append, HLS.out.1]; rfl) (by rw [List.length_append, HLS.out.2.1]; rfl)
          obtain ⟨A2, k2, B2, d2, e92, n2⟩ := (x3 dd11).ex HLS.out.2.2.1 HLS.out.2.2.2
          subst e91
          subst e92
          have bst : b 13 = false := by
              rcases Bool.eq_false_or_eq_true (b 13) with e | e
              · exact absurd (hb.symm.trans (x6 e).1) (by decide)
              · exact e
          have C1 := both_any l l n1 n2 (by omega) (by omega) (by omega)
          go_simp
          go_at_call 35
          refine (C1).mono ?_
          rintro e wz ⟨v, rfl, ow, kz⟩
          try go_simp
          have V := HV.out
          exact hK _ _ ⟨fun s => z s, _, _, _, _, rfl, Lib.hid ⟨V.1, V.2.1, V.2.2.1, V.2.2.2.1, V.2.2.2.2.1, V.2.2.2.2.2.1, V.2.2.2.2.2.2.1, V.2.2.2.2.2.2.2.1, V.2.2.2.2.2.2.2.2.1, V.2.2.2.2.2.2.2.2.2.1, V.2.2.2.2.2.2.2.2.2.2⟩, Lib.hid (HW.out.trans (kz.mono (by omega))), Lib.hid ⟨fun e => (x1 e).at kz, fun e => (x2 e).at kz, fun e => (x3 e).at kz, fun _ => ow.d.mono hsz9, fun e => (x5 e).below (by omega) kz, fun e => absurd (bst.symm.trans e) (by decide), x7.below x7.lt kz, x8.at kz⟩⟩
        · rintro b a wy hb hd ⟨z, z29, z31, z38, z39, rfl, HV, HW, HX⟩ K hK
          simp [Region.binds] at hd
          have dd12 : b 12 = true := by simp [hd]
          clear hd
          obtain ⟨x1, x2, x3, x4, x5, x6, x7, x8⟩ := HX.out
          have hr := x5 hb
          refine if_wanted (by rfl) (wp_store_d (.tmp 6) (.tmp 39) rfl (w.heap.size + 1) (w.heap.size + 2) z39 _ l (mids ks 0 q ++ [k] ++ mids ks (q + 1) m) (mids vs 0 q ++ [x] ++ mids vs (q + 1) m) rfl rfl hr (x4 dd12) (fun cs HC => ?_))
          have V := HV.out
          exact hK _ _ ⟨fun s => z s, _, _, _, _, rfl, Lib.hid ⟨V.1, V.2.1, V.2.2.1, V.2.2.2.1, V.2.2.2.2.1, V.2.2.2.2.2.1, V.2.2.2.2.2.2.1, V.2.2.2.2.2.2.2.1, V.2.2.2.2.2.2.2.2.1, V.2.2.2.2.2.2.2.2.2.1, V.2.2.2.2.2.2.2.2.2.2⟩, Lib.hid (HW.out.trans (row_below _ (by omega))), Lib.hid ⟨fun e => (x1 e).row _ (by omega), fun e => (x2 e).row _ (by omega), fun e => (x3 e).row _ (by omega), fun e => (x4 e).row _ (by omega), fun e => (by cases e), fun _ => ⟨dd12, HC⟩, x7.other _ (by omega), x8.row _ (by omega)⟩⟩
        · rintro b a wy hb hd ⟨z, z29, z31, z38, z39, rfl, HV, HW, HX⟩ K hK
          clear hd
          go_simp
          have V := HV.out
          exact hK _ _ ⟨fun s => if s = 7 then Value.bool true else z s, _, _, _, _, rfl, Lib.hid ⟨V.1, V.2.1, V.2.2.1, V.2.2.2.1, V.2.2.2.2.1, V.2.2.2.2.2.1, V.2.2.2.2.2.2.1, V.2.2.2.2.2.2.2.1, V.2.2.2.2.2.2.2.2.1, fun _ => rfl, V.2.2.2.2.2.2.2.2.2.2⟩, HW, HX⟩
        · rintro b a wy hb hd ⟨z, z29, z31, z38, z39, rfl, HV, HW, HX⟩ K hK
          clear hd
          go_simp
          have V := HV.out
          exact hK _ _ ⟨fun s => if s = 8 then .int .i64 0 else z s, _, _, _, _, rfl, Lib.hid ⟨V.1, V.2.1, V.2.2.1, V.2.2.2.1, V.2.2.2.2.1, V.2.2.2.2.2.1, V.2.2.2.2.2.2.1, V.2.2.2.2.2.2.2.1, V.2.2.2.2.2.2.2.2.1, V.2.2.2.2.2.2.2.2.2.1, fun _ => rfl⟩, HW, HX⟩
      case doneD =>
        rintro b a w9 hb ⟨z, z29, z31, z38, z39, rfl, HV, HW, HX⟩
        have e0 := (HV.out.1) (hb 0)
        have e1 := (HV.out.2.1) (hb 1)
        have e3 := (HV.out.2.2.1) (hb 3)
        have e5 := (HV.out.2.2.2.1) (hb 5)
        have e6 := (HV.out.2.2.2.2.1) (hb 6)
        have e7 := (HV.out.2.2.2.2.2.1) (hb 7)
        have e8 := (HV.out.2.2.2.2.2.2.1) (hb 8)
        have e9 := (HV.out.2.2.2.2.2.2.2.1) (hb 9)
        have e10 := (HV.out.2.2.2.2.2.2.2.2.1) (hb 10)
        have e14 := (HV.out.2.2.2.2.2.2.2.2.2.1) (hb 14)
        have e15 := (HV.out.2.2.2.2.2.2.2.2.2.2) (hb 15)
        simp only [e0, e1, e3, e5, e6, e7, e8, e9, e10, e14, e15]
        clear HV e0 e1 e3 e5 e6 e7 e8 e9 e10 e14 e15
        obtain ⟨_, _, _, x4, _, x6, _, _⟩ := HX.out
        have H9 := Lib.hid (x4 (hb 12))
        have HR9 := Lib.hid (x6 (hb 13)).2
        have HB9 := Lib.hid (BB4.out.trans (HW.out.mono (by omega)))
        clear x4 x6 HX HW hb
        go_wp2_with fail
        have hq := HQ.out
        subst hq
        have H0 := H9.out.mono (base' := w.heap.size) (by omega)
        exact bodyPost_ret (v := _) (res_node rfl _ rfl HR9.out) rfl ⟨_, rfl, by simpa only [List.append_assoc, List.singleton_append] using H0, HB9.out⟩
    · have hpl : plR ks k = -1 := if_neg hk
      rw [hpl]
      clear hpl
      by_cases hf : ks.length = 7
      · have E2 := E.out
        rw [if_pos ⟨hk, hf⟩] at E2
        subst E2
        have hf7 : ((m : Int) == 7) = true := by rw [beq_iff_eq]; omega
        go_wp2_with (first | (refine wpList_build_as rfl 24 #[] rfl #[.bool false, .slice none 0 0, .slice none 0 0] (by simp [Act.eval]; exact node_bare) ?_) | (refine wpList_store_d rfl (.tmp 6) (.tmp 44) rfl (w.heap.size + 1) 0 zeroD _ false [] [] rfl rfl HR4.out (own_zero _ _) ?_; intro cs HC))
        exact bodyPost_ret (v := _) (res_node rfl _ rfl HC) rfl ⟨_, rfl, own_zero _ _, BB4.out.trans (row_below cs (by omega))⟩
      · have hf7 : ((m : Int) == 7) = false := by rw [beq_eq_false_iff_ne]; omega
        have E2 := E.out
        rw [if_neg (fun h => hf h.2), decide_eq_false hk, upto_out hk, cut_mids HN0.out.kl, cut_mids HN0.out.vl] at E2
        subst E2
        have HL := Lib.hid kl
        clear E hf
        go_wp2_with fail
        clear c0 c1
        go_loopw [10] (fun i wr => ∃ j : Nat, j ≤ m ∧ i = .int .i64 (j : Int) ∧ Hid (∀ t, t < j → (ks.getD t 0).toNat < k.toNat) ∧ w4 = wr) (fun i _ => m - (Go.RowKit.intOf i).toNat)
        case atStart => exact ⟨0, Nat.zero_le _, rfl, Lib.hid (fun t ht => absurd ht (Nat.not_lt_zero _)), rfl⟩
        case round =>
          obtain ⟨j, hj, rfl, HLT, rfl⟩ := hrel
          have c1 := HBX4.out.cellAt (i := 1) rfl
          by_cases hlt : j < m
          · have hjl : j < ks.length := by rw [HL.out]; exact hlt
            have hlti : (j : Int) < (m : Int) := by omega
            obtain ⟨bk, ok, rfl, hH⟩ := HN4.out.ks.has (by omega)
            have hc := hH j hjl
            have HX := Lib.hid (show ks.getD j 0 = ks[j] by rw [List.getD_eq_getElem?_getD, List.getElem?_eq_getElem hjl]; rfl)
            generalize ks[j] = y at hc HX
            clear hH
            by_cases hyk : y.toNat < k.toNat
            · have hyki : (y.toNat : Int) < (k.toNat : Int) := by omega
              go_wp2_with fail
              go_roundw
              case rel => exact ⟨j + 1, by omega, by go_num, Lib.hid (fun t ht => by
                rcases Nat.lt_or_ge t j with h1 | h1
                · exact HLT.out t h1
                · obtain rfl : t = j := by omega
                  rw [HX.out]
                  exact hyk), by first | rfl | trivial⟩
              case measure => simp [Go.RowKit.intOf]; omega
            · have hyki : ¬ (y.toNat : Int) < (k.toNat : Int) := by omega
              have hq : low ks k = j := low_at ks k j (by omega) HLT.out (fun t h1 h2 => by
                have h3 := rises_getD HK.out.2.2.1 h1 h2
                rw [HX.out] at h3
                omega)
              have HQ := Lib.hid hq
              have hql : j ≤ m := by omega
              have hL1 := mids_length (i := 0) (j := j) kl (by omega)
              have hL2 := mids_length (i := 0) (j := j) HN0.out.vl (by omega)
              have hL3 := mids_length (i := j) (j := m) kl (Nat.le_refl _)
              have hL4 := mids_length (i := j) (j := m) HN0.out.vl (Nat.le_refl _)
              have HLS := Lib.hid (And.intro hL1 (And.intro hL2 (And.intro hL3 hL4)))
              clear hL1 hL2 hL3 hL4
              clear hq hj HLT HX
              go_upto_region 12 with (fail)
              refine Inv2.wp_region_inv (fun b a wy => ∃ (z : Nat → Value) (z63 : Value) (z65 : Value) (z71 : Value) (z72 : Value), a = ⟨(List.toArray (Value.agg #[Value.bool l, Value.slice (some ⟨bk, ok, none⟩) m c, Value.slice B m d] :: Value.int IntKind.u64 ↑k.toNat :: Value.int IntKind.u64 ↑x.toNat :: Value.pointer (some ⟨w.heap.size, 0, none⟩) :: undef :: undef :: Value.pointer (some ⟨w.heap.size + 1, 0, none⟩) :: (z 7) :: (z 8) :: Value.pointer (some ⟨g1 + 1 + 1, 0, none⟩) :: Value.int IntKind.i64 (j : Int) :: Value.agg #[Value.bool l, Value.slice (some ⟨bk, ok, none⟩) m c, Value.slice B m d] :: Value.bool true :: Value.bool false :: undef :: Value.pointer (some ⟨w.heap.size, 0, none⟩) :: Value.bool l :: Value.int IntKind.u64 ↑k.toNat :: Value.slice (some ⟨g1, 0, none⟩) 1 1 :: Value.int IntKind.u64 ↑x.toNat :: Value.slice (some ⟨g1 + 1, 0, none⟩) 1 1 :: Value.agg #[Value.bool l, Value.slice (some ⟨g1, 0, none⟩) 1 1, Value.slice (some ⟨g1 + 1, 0, none⟩) 1 1] :: Value.agg #[Value.bool l, Value.slice (some ⟨bk, ok, none⟩) m c, Value.slice B m d] :: Value.int IntKind.u64 ↑k.toNat :: Value.int IntKind.i64 (-1) :: Value.int IntKind.i64 (-1) :: Value.bool false :: undef :: undef :: undef :: undef :: undef :: undef :: undef :: undef :: undef :: undef :: undef :: undef :: undef :: Value.pointer (some ⟨w.heap.size, 1, none⟩) :: Value.slice (some ⟨bk, ok, none⟩) m c :: Value.int IntKind.i64 (m : Int) :: Value.bool false :: undef :: Value.int IntKind.i64 (j : Int) :: Value.pointer (some ⟨w.heap.size, 1, none⟩) :: Value.slice (some ⟨bk, ok, none⟩) m c :: Value.int IntKind.i64 (m : Int) :: Value.bool true :: Value.bool true :: Value.pointer (some ⟨w.heap.size, 1, none⟩) :: Value.slice (some ⟨bk, ok, none⟩) m c :: Value.int IntKind.i64 (j : Int) :: Value.pointer (some ⟨bk, ok + j, none⟩) :: Value.int IntKind.u64 ↑y.toNat :: Value.int IntKind.u64 ↑k.toNat :: Value.bool false :: Value.bool false :: u59 :: u60 :: (z 61) :: (z 62) :: z63 :: (z 64) :: z65 :: (z 66) :: (z 67) :: (z 68) :: (z 69) :: (z 70) :: z71 :: z72 :: [])), []⟩ ∧ Hid ((b 0 = true → (z 61) = .agg #[.bool l, .slice (some ⟨bk, ok, none⟩) m c, .slice B m d]) ∧ (b 1 = true → (z 62) = Value.int IntKind.i64 (j : Int)) ∧ (b 3 = true → (z 64) = one) ∧ (b 5 = true → (z 66) = .agg #[.bool l, .slice (some ⟨bk, ok, none⟩) m c, .slice B m d]) ∧ (b 6 = true → (z 67) = Value.int IntKind.i64 (j : Int)) ∧ (b 7 = true → (z 68) = .pointer (some ⟨w.heap.size, 1, none⟩)) ∧ (b 8 = true → (z 69) = .slice (some ⟨bk, ok, none⟩) m c) ∧ (b 9 = true → (z 70) = .int .i64 (m : Int)) ∧ (b 13 = true → (z 7) = Value.bool false) ∧ (b 14 = true → (z 8) = .int .i64 0)) ∧ Hid (Below (w.heap.size + 1) w4 wy) ∧ Hid ((b 2 = true → OwnD wy (w.heap.size + 2) z63 l (mids ks 0 j) (mids vs 0 j)) ∧ (b 4 = true → OwnD wy (w.heap.size + 2) z65 l (mids ks 0 j ++ [k]) (mids vs 0 j ++ [x])) ∧ (b 10 = true → OwnD wy (w.heap.size + 2) z71 l (mids ks (j) m) (mids vs (j) m)) ∧ (b 11 = true → OwnD wy (w.heap.size + 2) z72 l (mids ks 0 j ++ [k] ++ mids ks (j) m) (mids vs 0 j ++ [x] ++ mids vs (j) m)) ∧ (b 12 = false → BoxD wy (w.heap.size + 1) zeroD) ∧ (b 12 = true → b 11 = true ∧ BoxD wy (w.heap.size + 1) z72) ∧ BoxD wy (g1 + 2) one ∧ OwnD wy (w.heap.size + 2) one l [k] [x])) (by kernel_rfl) (by kernel_rfl) ?startE ?stepsE ?doneE
              case startE =>
                intro b hb
                refine ⟨fun s => if s = 7 then Value.bool false else if s = 8 then Value.int IntKind.i64 0 else undef, undef, undef, undef, undef, rfl, Lib.hid ⟨?_, ?_, ?_, ?_, ?_, ?_, ?_, ?_, ?_, ?_⟩, Lib.hid ((show Still w4 w4.drew from ⟨rfl, rfl, rfl, rfl⟩).below _), Lib.hid (⟨(fun e => by rw [hb _ (by decide)] at e; cases e), (fun e => by rw [hb _ (by decide)] at e; cases e), (fun e => by rw [hb _ (by decide)] at e; cases e), (fun e => by rw [hb _ (by decide)] at e; cases e), fun _ => HR4.out, (fun e => by rw [hb _ (by decide)] at e; cases e), RXB.out.below RXB.out.lt ((show Still w4 w4.drew from ⟨rfl, rfl, rfl, rfl⟩).below _), O3.out.at ((show Still w4 w4.drew from ⟨rfl, rfl, rfl, rfl⟩).below _)⟩)⟩
                all_goals (intro e; first | rfl | (rw [hb _ (by decide)] at e; cases e))
              case stepsE =>
                refine ⟨?_, ?_, ?_, ?_, ?_, ?_, ?_, ?_, ?_, ?_, ?_, ?_, ?_, ?_, ?_, trivial⟩
                · rintro b a wy hb hd ⟨z, z63, z65, z71, z72, rfl, HV, HW, HX⟩ K hK
                  clear hd
                  have hbx := HBX4.out.below (by omega) HW.out
                  refine if_wanted (by rfl) (wp_load_d (.tmp 3) rfl w.heap.size _ rfl (row_d hbx) ?_)
                  have V := HV.out
                  exact hK _ _ ⟨fun s => if s = 61 then .agg #[.bool l, .slice (some ⟨bk, ok, none⟩) m c, .slice B m d] else z s, _, _, _, _, rfl, Lib.hid ⟨fun _ => rfl, V.2.1, V.2.2.1, V.2.2.2.1, V.2.2.2.2.1, V.2.2.2.2.2.1, V.2.2.2.2.2.2.1, V.2.2.2.2.2.2.2.1, V.2.2.2.2.2.2.2.2.1, V.2.2.2.2.2.2.2.2.2⟩, HW, HX⟩
                · rintro b a wy hb hd ⟨z, z63, z65, z71, z72, rfl, HV, HW, HX⟩ K hK
                  clear hd
                  go_simp
                  have V := HV.out
                  exact hK _ _ ⟨fun s => if s = 62 then Value.int IntKind.i64 (j : Int) else z s, _, _, _, _, rfl, Lib.hid ⟨V.1, fun _ => rfl, V.2.2.1, V.2.2.2.1, V.2.2.2.2.1, V.2.2.2.2.2.1, V.2.2.2.2.2.2.1, V.2.2.2.2.2.2.2.1, V.2.2.2.2.2.2.2.2.1, V.2.2.2.2.2.2.2.2.2⟩, HW, HX⟩
                · rintro b a wy hb hd ⟨z, z63, z65, z71, z72, rfl, HV, HW, HX⟩ K hK
                  simp [Region.binds] at hd
                  have e0 : (z 61) = .agg #[.bool l, .slice (some ⟨bk, ok, none⟩) m c, .slice B m d] := (HV.out.1) (by simp [hd])
                  have e1 : (z 62) = Value.int IntKind.i64 (j : Int) := (HV.out.2.1) (by simp [hd])
                  clear hd
                  obtain ⟨x1, x2, x3, x4, x5, x6, x7, x8⟩ := HX.out
                  have hsz9 : w.heap.size + 2 ≤ wy.heap.size := by have := HW.out.size; omega
                  have HNy := Lib.hid (HN0.out.below (BB4.out.trans (HW.out.mono (by omega))))
                  have C1 := part_any l HNy.out 0 j (Nat.zero_le _) (by omega) (by omega)
                  go_simp
                  go_at_call 36
                  refine (C1).mono ?_
                  rintro e wz ⟨v, rfl, ow, kz⟩
                  try go_simp
                  have V := HV.out
                  exact hK _ _ ⟨fun s => if s = 61 then .agg #[.bool l, .slice (some ⟨bk, ok, none⟩) m c, .slice B m d] else if s = 62 then Value.int IntKind.i64 (j : Int) else z s, _, _, _, _, rfl, Lib.hid ⟨fun _ => rfl, fun _ => rfl, V.2.2.1, V.2.2.2.1, V.2.2.2.2.1, V.2.2.2.2.2.1, V.2.2.2.2.2.2.1, V.2.2.2.2.2.2.2.1, V.2.2.2.2.2.2.2.2.1, V.2.2.2.2.2.2.2.2.2⟩, Lib.hid (HW.out.trans (kz.mono (by omega))), Lib.hid ⟨fun _ => ow.d.mono hsz9, fun e => (x2 e).at kz, fun e => (x3 e).at kz, fun e => (x4 e).at kz, fun e => (x5 e).below (by omega) kz, fun e => ⟨(x6 e).1, (x6 e).2.below (by omega) kz⟩, x7.below x7.lt kz, x8.at kz⟩⟩
                · rintro b a wy hb hd ⟨z, z63, z65, z71, z72, rfl, HV, HW, HX⟩ K hK
                  clear hd
                  obtain ⟨x1, x2, x3, x4, x5, x6, x7, x8⟩ := HX.out
                  refine if_wanted (by rfl) (wp_load_d (.tmp 9) rfl (g1 + 2) _ rfl x7 ?_)
                  have V := HV.out
                  exact hK _ _ ⟨fun s => if s = 64 then one else z s, _, _, _, _, rfl, Lib.hid ⟨V.1, V.2.1, fun _ => rfl, V.2.2.2.1, V.2.2.2.2.1, V.2.2.2.2.2.1, V.2.2.2.2.2.2.1, V.2.2.2.2.2.2.2.1, V.2.2.2.2.2.2.2.2.1, V.2.2.2.2.2.2.2.2.2⟩, HW, HX⟩
                · rintro b a wy hb hd ⟨z, z63, z65, z71, z72, rfl, HV, HW, HX⟩ K hK
                  simp [Region.binds] at hd
                  have dd2 : b 2 = true := by simp [hd]
                  have e3 : (z 64) = one := (HV.out.2.2.1) (by simp [hd])
                  clear hd
                  obtain ⟨x1, x2, x3, x4, x5, x6, x7, x8⟩ := HX.out
                  have hsz9 : w.heap.size + 2 ≤ wy.heap.size := by have := HW.out.size; omega
                  obtain ⟨A1, k1, B1, d1, e91, n1⟩ := (x1 dd2).ex HLS.out.1 HLS.out.2.1
                  obtain ⟨A2, k2, B2, d2, e92, n2⟩ := x8.ex (n := 1) (m := 1) rfl rfl
                  subst e91
                  have C1 := both_any l l n1 n2 (by omega) (by omega) (by omega)
                  rw [← e92] at C1
                  clear e92 n2
                  go_simp
                  go_at_call 35
                  refine (C1).mono ?_
                  rintro e wz ⟨v, rfl, ow, kz⟩
                  try go_simp
                  have V := HV.out
                  exact hK _ _ ⟨fun s => if s = 64 then one else z s, _, _, _, _, rfl, Lib.hid ⟨V.1, V.2.1, fun _ => rfl, V.2.2.2.1, V.2.2.2.2.1, V.2.2.2.2.2.1, V.2.2.2.2.2.2.1, V.2.2.2.2.2.2.2.1, V.2.2.2.2.2.2.2.2.1, V.2.2.2.2.2.2.2.2.2⟩, Lib.hid (HW.out.trans (kz.mono (by omega))), Lib.hid ⟨fun e => (x1 e).at kz, fun _ => ow.d.mono hsz9, fun e => (x3 e).at kz, fun e => (x4 e).at kz, fun e => (x5 e).below (by omega) kz, fun e => ⟨(x6 e).1, (x6 e).2.below (by omega) kz⟩, x7.below x7.lt kz, x8.at kz⟩⟩
                · rintro b a wy hb hd ⟨z, z63, z65, z71, z72, rfl, HV, HW, HX⟩ K hK
                  clear hd
                  have hbx := HBX4.out.below (by omega) HW.out
                  refine if_wanted (by rfl) (wp_load_d (.tmp 3) rfl w.heap.size _ rfl (row_d hbx) ?_)
                  have V := HV.out
                  exact hK _ _ ⟨fun s => if s = 66 then .agg #[.bool l, .slice (some ⟨bk, ok, none⟩) m c, .slice B m d] else z s, _, _, _, _, rfl, Lib.hid ⟨V.1, V.2.1, V.2.2.1, fun _ => rfl, V.2.2.2.2.1, V.2.2.2.2.2.1, V.2.2.2.2.2.2.1, V.2.2.2.2.2.2.2.1, V.2.2.2.2.2.2.2.2.1, V.2.2.2.2.2.2.2.2.2⟩, HW, HX⟩
                · rintro b a wy hb hd ⟨z, z63, z65, z71, z72, rfl, HV, HW, HX⟩ K hK
                  clear hd
                  go_simp
                  have V := HV.out
                  exact hK _ _ ⟨fun s => if s = 67 then Value.int IntKind.i64 (j : Int) else z s, _, _, _, _, rfl, Lib.hid ⟨V.1, V.2.1, V.2.2.1, V.2.2.2.1, fun _ => rfl, V.2.2.2.2.2.1, V.2.2.2.2.2.2.1, V.2.2.2.2.2.2.2.1, V.2.2.2.2.2.2.2.2.1, V.2.2.2.2.2.2.2.2.2⟩, HW, HX⟩
                · rintro b a wy hb hd ⟨z, z63, z65, z71, z72, rfl, HV, HW, HX⟩ K hK
                  clear hd
                  go_simp
                  have V := HV.out
                  exact hK _ _ ⟨fun s => if s = 68 then .pointer (some ⟨w.heap.size, 1, none⟩) else z s, _, _, _, _, rfl, Lib.hid ⟨V.1, V.2.1, V.2.2.1, V.2.2.2.1, V.2.2.2.2.1, fun _ => rfl, V.2.2.2.2.2.2.1, V.2.2.2.2.2.2.2.1, V.2.2.2.2.2.2.2.2.1, V.2.2.2.2.2.2.2.2.2⟩, HW, HX⟩
                · rintro b a wy hb hd ⟨z, z63, z65, z71, z72, rfl, HV, HW, HX⟩ K hK
                  simp [Region.binds] at hd
                  have e7 : (z 68) = .pointer (some ⟨w.heap.size, 1, none⟩) := (HV.out.2.2.2.2.2.1) (by simp [hd])
                  clear hd
                  have hbx := HBX4.out.below (by omega) HW.out
                  have c1 := hbx.cellAt (i := 1) rfl
                  clear hbx
                  go_simp
                  have V := HV.out
                  exact hK _ _ ⟨fun s => if s = 69 then .slice (some ⟨bk, ok, none⟩) m c else if s = 68 then .pointer (some ⟨w.heap.size, 1, none⟩) else z s, _, _, _, _, rfl, Lib.hid ⟨V.1, V.2.1, V.2.2.1, V.2.2.2.1, V.2.2.2.2.1, fun _ => rfl, fun _ => rfl, V.2.2.2.2.2.2.2.1, V.2.2.2.2.2.2.2.2.1, V.2.2.2.2.2.2.2.2.2⟩, HW, HX⟩
                · rintro b a wy hb hd ⟨z, z63, z65, z71, z72, rfl, HV, HW, HX⟩ K hK
                  simp [Region.binds] at hd
                  have e8 : (z 69) = .slice (some ⟨bk, ok, none⟩) m c := (HV.out.2.2.2.2.2.2.1) (by simp [hd])
                  clear hd
                  go_simp
                  have V := HV.out
                  exact hK _ _ ⟨fun s => if s = 70 then .int .i64 (m : Int) else if s = 69 then .slice (some ⟨bk, ok, none⟩) m c else z s, _, _, _, _, rfl, Lib.hid ⟨V.1, V.2.1, V.2.2.1, V.2.2.2.1, V.2.2.2.2.1, V.2.2.2.2.2.1, fun _ => rfl, fun _ => rfl, V.2.2.2.2.2.2.2.2.1, V.2.2.2.2.2.2.2.2.2⟩, HW, HX⟩
                · rintro b a wy hb hd ⟨z, z63, z65, z71, z72, rfl, HV, HW, HX⟩ K hK
                  simp [Region.binds] at hd
                  have e5 : (z 66) = .agg #[.bool l, .slice (some ⟨bk, ok, none⟩) m c, .slice B m d] := (HV.out.2.2.2.1) (by simp [hd])
                  have e6 : (z 67) = Value.int IntKind.i64 (j : Int) := (HV.out.2.2.2.2.1) (by simp [hd])
                  have e9 : (z 70) = .int .i64 (m : Int) := (HV.out.2.2.2.2.2.2.2.1) (by simp [hd])
                  clear hd
                  obtain ⟨x1, x2, x3, x4, x5, x6, x7, x8⟩ := HX.out
                  have hsz9 : w.heap.size + 2 ≤ wy.heap.size := by have := HW.out.size; omega
                  have HNy := Lib.hid (HN0.out.below (BB4.out.trans (HW.out.mono (by omega))))
                  have C1 := part_any l HNy.out (j) m (by omega) (Nat.le_refl _) (by omega)
                  go_simp
                  go_at_call 36
                  refine (C1).mono ?_
                  rintro e wz ⟨v, rfl, ow, kz⟩
                  try go_simp
                  have V := HV.out
                  exact hK _ _ ⟨fun s => if s = 66 then .agg #[.bool l, .slice (some ⟨bk, ok, none⟩) m c, .slice B m d] else if s = 67 then Value.int IntKind.i64 (j : Int) else if s = 70 then .int .i64 (m : Int) else z s, _, _, _, _, rfl, Lib.hid ⟨V.1, V.2.1, V.2.2.1, fun _ => rfl, fun _ => rfl, V.2.2.2.2.2.1, V.2.2.2.2.2.2.1, fun _ => rfl, V.2.2.2.2.2.2.2.2.1, V.2.2.2.2.2.2.2.2.2⟩, Lib.hid (HW.out.trans (kz.mono (by omega))), Lib.hid ⟨fun e => (x1 e).at kz, fun e => (x2 e).at kz, fun _ => ow.d.mono hsz9, fun e => (x4 e).at kz, fun e => (x5 e).below (by omega) kz, fun e => ⟨(x6 e).1, (x6 e).2.below (by omega) kz⟩, x7.below x7.lt kz, x8.at kz⟩⟩
                · rintro b a wy hb hd ⟨z, z63, z65, z71, z72, rfl, HV, HW, HX⟩ K hK
                  simp [Region.binds] at hd
                  have dd4 : b 4 = true := by simp [hd]
                  have dd10 : b 10 = true := by simp [hd]
                  clear hd
                  obtain ⟨x1, x2, x3, x4, x5, x6, x7, x8⟩ := HX.out
                  have hsz9 : w.heap.size + 2 ≤ wy.heap.size := by have := HW.out.size; omega
                  obtain ⟨A1, k1, B1, d1, e91, n1⟩ := (x2 dd4).ex (n := j + 1) (m := j + 1) (by rw [List.length_append, HLS.out.1]; rfl) (by rw [List.length_append, HLS.out.2.1]; rfl)
                  obtain ⟨A2, k2, B2, d2, e92, n2⟩ := (x3 dd10).ex HLS.out.2.2.1 HLS.out.2.2.2
                  subst e91
                  subst e92
                  have bst : b 12 = false := by
                      rcases Bool.eq_false_or_eq_true (b 12) with e | e
                      · exact absurd (hb.symm.trans (x6 e).1) (by decide)
                      · exact e
                  have C1 := both_any l l n1 n2 (by omega) (by omega) (by omega)
                  go_simp
                  go_at_call 35
                  refine (C1).mono ?_
                  rintro e wz ⟨v, rfl, ow, kz⟩
                  try go_simp
                  have V := HV.out
                  exact hK _ _ ⟨fun s => z s, _, _, _, _, rfl, Lib.hid ⟨V.1, V.2.1, V.2.2.1, V.2.2.2.1, V.2.2.2.2.1, V.2.2.2.2.2.1, V.2.2.2.2.2.2.1, V.2.2.2.2.2.2.2.1, V.2.2.2.2.2.2.2.2.1, V.2.2.2.2.2.2.2.2.2⟩, Lib.hid (HW.out.trans (kz.mono (by omega))), Lib.hid ⟨fun e => (x1 e).at kz, fun e => (x2 e).at kz, fun e => (x3 e).at kz, fun _ => ow.d.mono hsz9, fun e => (x5 e).below (by omega) kz, fun e => absurd (bst.symm.trans e) (by decide), x7.below x7.lt kz, x8.at kz⟩⟩
                · rintro b a wy hb hd ⟨z, z63, z65, z71, z72, rfl, HV, HW, HX⟩ K hK
                  simp [Region.binds] at hd
                  have dd11 : b 11 = true := by simp [hd]
                  clear hd
                  obtain ⟨x1, x2, x3, x4, x5, x6, x7, x8⟩ := HX.out
                  have hr := x5 hb
                  refine if_wanted (by rfl) (wp_store_d (.tmp 6) (.tmp 72) rfl (w.heap.size + 1) (w.heap.size + 2) z72 _ l (mids ks 0 j ++ [k] ++ mids ks (j) m) (mids vs 0 j ++ [x] ++ mids vs (j) m) rfl rfl hr (x4 dd11) (fun cs HC => ?_))
                  have V := HV.out
                  exact hK _ _ ⟨fun s => z s, _, _, _, _, rfl, Lib.hid ⟨V.1, V.2.1, V.2.2.1, V.2.2.2.1, V.2.2.2.2.1, V.2.2.2.2.2.1, V.2.2.2.2.2.2.1, V.2.2.2.2.2.2.2.1, V.2.2.2.2.2.2.2.2.1, V.2.2.2.2.2.2.2.2.2⟩, Lib.hid (HW.out.trans (row_below _ (by omega))), Lib.hid ⟨fun e => (x1 e).row _ (by omega), fun e => (x2 e).row _ (by omega), fun e => (x3 e).row _ (by omega), fun e => (x4 e).row _ (by omega), fun e => (by cases e), fun _ => ⟨dd11, HC⟩, x7.other _ (by omega), x8.row _ (by omega)⟩⟩
                · rintro b a wy hb hd ⟨z, z63, z65, z71, z72, rfl, HV, HW, HX⟩ K hK
                  clear hd
                  go_simp
                  have V := HV.out
                  exact hK _ _ ⟨fun s => if s = 7 then Value.bool false else z s, _, _, _, _, rfl, Lib.hid ⟨V.1, V.2.1, V.2.2.1, V.2.2.2.1, V.2.2.2.2.1, V.2.2.2.2.2.1, V.2.2.2.2.2.2.1, V.2.2.2.2.2.2.2.1, fun _ => rfl, V.2.2.2.2.2.2.2.2.2⟩, HW, HX⟩
                · rintro b a wy hb hd ⟨z, z63, z65, z71, z72, rfl, HV, HW, HX⟩ K hK
                  clear hd
                  go_simp
                  have V := HV.out
                  exact hK _ _ ⟨fun s => if s = 8 then .int .i64 0 else z s, _, _, _, _, rfl, Lib.hid ⟨V.1, V.2.1, V.2.2.1, V.2.2.2.1, V.2.2.2.2.1, V.2.2.2.2.2.1, V.2.2.2.2.2.2.1, V.2.2.2.2.2.2.2.1, V.2.2.2.2.2.2.2.2.1, fun _ => rfl⟩, HW, HX⟩
              case doneE =>
                rintro b a w9 hb ⟨z, z63, z65, z71, z72, rfl, HV, HW, HX⟩
                have e0 := (HV.out.1) (hb 0)
                have e1 := (HV.out.2.1) (hb 1)
                have e3 := (HV.out.2.2.1) (hb 3)
                have e5 := (HV.out.2.2.2.1) (hb 5)
                have e6 := (HV.out.2.2.2.2.1) (hb 6)
                have e7 := (HV.out.2.2.2.2.2.1) (hb 7)
                have e8 := (HV.out.2.2.2.2.2.2.1) (hb 8)
                have e9 := (HV.out.2.2.2.2.2.2.2.1) (hb 9)
                have e13 := (HV.out.2.2.2.2.2.2.2.2.1) (hb 13)
                have e14 := (HV.out.2.2.2.2.2.2.2.2.2) (hb 14)
                simp only [e0, e1, e3, e5, e6, e7, e8, e9, e13, e14]
                clear HV e0 e1 e3 e5 e6 e7 e8 e9 e13 e14
                obtain ⟨_, _, _, x4, _, x6, _, _⟩ := HX.out
                have H9 := Lib.hid (x4 (hb 11))
                have HR9 := Lib.hid (x6 (hb 12)).2
                have HB9 := Lib.hid (BB4.out.trans (HW.out.mono (by omega)))
                clear x4 x6 HX HW hb
                go_wp2_with fail
                have hq := HQ.out
                subst hq
                have H0 := H9.out.mono (base' := w.heap.size) (by omega)
                exact bodyPost_ret (v := _) (res_node rfl _ rfl HR9.out) rfl ⟨_, rfl, by simpa only [List.append_assoc, List.singleton_append] using H0, HB9.out⟩
          · have hlti : ¬ (j : Int) < (m : Int) := by omega
            have hq : low ks k = j := low_at ks k j (by omega) HLT.out (fun t h1 h2 => by omega)
            have HQ := Lib.hid hq
            have hql : j ≤ m := by omega
            have hL1 := mids_length (i := 0) (j := j) kl (by omega)
            have hL2 := mids_length (i := 0) (j := j) HN0.out.vl (by omega)
            have hL3 := mids_length (i := j) (j := m) kl (Nat.le_refl _)
            have hL4 := mids_length (i := j) (j := m) HN0.out.vl (Nat.le_refl _)
            have HLS := Lib.hid (And.intro hL1 (And.intro hL2 (And.intro hL3 hL4)))
            clear hL1 hL2 hL3 hL4
            clear hq hj HLT
            go_upto_region 12 with (fail)
            refine Inv2.wp_region_inv (fun b a wy => ∃ (z : Nat → Value) (z63 : Value) (z65 : Value) (z71 : Value) (z72 : Value), a = ⟨(List.toArray (Value.agg #[Value.bool l, Value.slice A m c, Value.slice B m d] :: Value.int IntKind.u64 ↑k.toNat :: Value.int IntKind.u64 ↑x.toNat :: Value.pointer (some ⟨w.heap.size, 0, none⟩) :: undef :: undef :: Value.pointer (some ⟨w.heap.size + 1, 0, none⟩) :: (z 7) :: (z 8) :: Value.pointer (some ⟨g1 + 1 + 1, 0, none⟩) :: Value.int IntKind.i64 (j : Int) :: Value.agg #[Value.bool l, Value.slice A m c, Value.slice B m d] :: Value.bool true :: Value.bool false :: undef :: Value.pointer (some ⟨w.heap.size, 0, none⟩) :: Value.bool l :: Value.int IntKind.u64 ↑k.toNat :: Value.slice (some ⟨g1, 0, none⟩) 1 1 :: Value.int IntKind.u64 ↑x.toNat :: Value.slice (some ⟨g1 + 1, 0, none⟩) 1 1 :: Value.agg #[Value.bool l, Value.slice (some ⟨g1, 0, none⟩) 1 1, Value.slice (some ⟨g1 + 1, 0, none⟩) 1 1] :: Value.agg #[Value.bool l, Value.slice A m c, Value.slice B m d] :: Value.int IntKind.u64 ↑k.toNat :: Value.int IntKind.i64 (-1) :: Value.int IntKind.i64 (-1) :: Value.bool false :: undef :: undef :: undef :: undef :: undef :: undef :: undef :: undef :: undef :: undef :: undef :: undef :: undef :: Value.pointer (some ⟨w.heap.size, 1, none⟩) :: Value.slice A m c :: Value.int IntKind.i64 (m : Int) :: Value.bool false :: undef :: Value.int IntKind.i64 (j : Int) :: Value.pointer (some ⟨w.heap.size, 1, none⟩) :: Value.slice A m c :: Value.int IntKind.i64 (m : Int) :: Value.bool false :: Value.bool false :: undef :: undef :: undef :: undef :: undef :: undef :: undef :: Value.bool false :: u59 :: u60 :: (z 61) :: (z 62) :: z63 :: (z 64) :: z65 :: (z 66) :: (z 67) :: (z 68) :: (z 69) :: (z 70) :: z71 :: z72 :: [])), []⟩ ∧ Hid ((b 0 = true → (z 61) = .agg #[.bool l, .slice A m c, .slice B m d]) ∧ (b 1 = true → (z 62) = Value.int IntKind.i64 (j : Int)) ∧ (b 3 = true → (z 64) = one) ∧ (b 5 = true → (z 66) = .agg #[.bool l, .slice A m c, .slice B m d]) ∧ (b 6 = true → (z 67) = Value.int IntKind.i64 (j : Int)) ∧ (b 7 = true → (z 68) = .pointer (some ⟨w.heap.size, 1, none⟩)) ∧ (b 8 = true → (z 69) = .slice A m c) ∧ (b 9 = true → (z 70) = .int .i64 (m : Int)) ∧ (b 13 = true → (z 7) = Value.bool false) ∧ (b 14 = true → (z 8) = .int .i64 0)) ∧ Hid (Below (w.heap.size + 1) w4 wy) ∧ Hid ((b 2 = true → OwnD wy (w.heap.size + 2) z63 l (mids ks 0 j) (mids vs 0 j)) ∧ (b 4 = true → OwnD wy (w.heap.size + 2) z65 l (mids ks 0 j ++ [k]) (mids vs 0 j ++ [x])) ∧ (b 10 = true → OwnD wy (w.heap.size + 2) z71 l (mids ks (j) m) (mids vs (j) m)) ∧ (b 11 = true → OwnD wy (w.heap.size + 2) z72 l (mids ks 0 j ++ [k] ++ mids ks (j) m) (mids vs 0 j ++ [x] ++ mids vs (j) m)) ∧ (b 12 = false → BoxD wy (w.heap.size + 1) zeroD) ∧ (b 12 = true → b 11 = true ∧ BoxD wy (w.heap.size + 1) z72) ∧ BoxD wy (g1 + 2) one ∧ OwnD wy (w.heap.size + 2) one l [k] [x])) (by kernel_rfl) (by kernel_rfl) ?startF ?stepsF ?doneF
            case startF =>
              intro b hb
              refine ⟨fun s => if s = 7 then Value.bool false else if s = 8 then Value.int IntKind.i64 0 else undef, undef, undef, undef, undef, rfl, Lib.hid ⟨?_, ?_, ?_, ?_, ?_, ?_, ?_, ?_, ?_, ?_⟩, Lib.hid ((show Still w4 w4.drew from ⟨rfl, rfl, rfl, rfl⟩).below _), Lib.hid (⟨(fun e => by rw [hb _ (by decide)] at e; cases e), (fun e => by rw [hb _ (by decide)] at e; cases e), (fun e => by rw [hb _ (by decide)] at e; cases e), (fun e => by rw [hb _ (by decide)] at e; cases e), fun _ => HR4.out, (fun e => by rw [hb _ (by decide)] at e; cases e), RXB.out.below RXB.out.lt ((show Still w4 w4.drew from ⟨rfl, rfl, rfl, rfl⟩).below _), O3.out.at ((show Still w4 w4.drew from ⟨rfl, rfl, rfl, rfl⟩).below _)⟩)⟩
              all_goals (intro e; first | rfl | (rw [hb _ (by decide)] at e; cases e))
            case stepsF =>
              refine ⟨?_, ?_, ?_, ?_, ?_, ?_, ?_, ?_, ?_, ?_, ?_, ?_, ?_, ?_, ?_, trivial⟩
              · rintro b a wy hb hd ⟨z, z63, z65, z71, z72, rfl, HV, HW, HX⟩ K hK
                clear hd
                have hbx := HBX4.out.below (by omega) HW.out
                refine if_wanted (by rfl) (wp_load_d (.tmp 3) rfl w.heap.size _ rfl (row_d hbx) ?_)
                have V := HV.out
                exact hK _ _ ⟨fun s => if s = 61 then .agg #[.bool l, .slice A m c, .slice B m d] else z s, _, _, _, _, rfl, Lib.hid ⟨fun _ => rfl, V.2.1, V.2.2.1, V.2.2.2.1, V.2.2.2.2.1, V.2.2.2.2.2.1, V.2.2.2.2.2.2.1, V.2.2.2.2.2.2.2.1, V.2.2.2.2.2.2.2.2.1, V.2.2.2.2.2.2.2.2.2⟩, HW, HX⟩
              · rintro b a wy hb hd ⟨z, z63, z65, z71, z72, rfl, HV, HW, HX⟩ K hK
                clear hd
                go_simp
                have V := HV.out
                exact hK _ _ ⟨fun s => if s = 62 then Value.int IntKind.i64 (j : Int) else z s, _, _, _, _, rfl, Lib.hid ⟨V.1, fun _ => rfl, V.2.2.1, V.2.2.2.1, V.2.2.2.2.1, V.2.2.2.2.2.1, V.2.2.2.2.2.2.1, V.2.2.2.2.2.2.2.1, V.2.2.2.2.2.2.2.2.1, V.2.2.2.2.2.2.2.2.2⟩, HW, HX⟩
              · rintro b a wy hb hd ⟨z, z63, z65, z71, z72, rfl, HV, HW, HX⟩ K hK
                simp [Region.binds] at hd
                have e0 : (z 61) = .agg #[.bool l, .slice A m c, .slice B m d] := (HV.out.1) (by simp [hd])
                have e1 : (z 62) = Value.int IntKind.i64 (j : Int) := (HV.out.2.1) (by simp [hd])
                clear hd
                obtain ⟨x1, x2, x3, x4, x5, x6, x7, x8⟩ := HX.out
                have hsz9 : w.heap.size + 2 ≤ wy.heap.size := by have := HW.out.size; omega
                have HNy := Lib.hid (HN0.out.below (BB4.out.trans (HW.out.mono (by omega))))
                have C1 := part_any l HNy.out 0 j (Nat.zero_le _) (by omega) (by omega)
                go_simp
                go_at_call 36
                refine (C1).mono ?_
                rintro e wz ⟨v, rfl, ow, kz⟩
                try go_simp
                have V := HV.out
                exact hK _ _ ⟨fun s => if s = 61 then .agg #[.bool l, .slice A m c, .slice B m d] else if s = 62 then Value.int IntKind.i64 (j : Int) else z s, _, _, _, _, rfl, Lib.hid ⟨fun _ => rfl, fun _ => rfl, V.2.2.1, V.2.2.2.1, V.2.2.2.2.1, V.2.2.2.2.2.1, V.2.2.2.2.2.2.1, V.2.2.2.2.2.2.2.1, V.2.2.2.2.2.2.2.2.1, V.2.2.2.2.2.2.2.2.2⟩, Lib.hid (HW.out.trans (kz.mono (by omega))), Lib.hid ⟨fun _ => ow.d.mono hsz9, fun e => (x2 e).at kz, fun e => (x3 e).at kz, fun e => (x4 e).at kz, fun e => (x5 e).below (by omega) kz, fun e => ⟨(x6 e).1, (x6 e).2.below (by omega) kz⟩, x7.below x7.lt kz, x8.at kz⟩⟩
              · rintro b a wy hb hd ⟨z, z63, z65, z71, z72, rfl, HV, HW, HX⟩ K hK
                clear hd
                obtain ⟨x1, x2, x3, x4, x5, x6, x7, x8⟩ := HX.out
                refine if_wanted (by rfl) (wp_load_d (.tmp 9) rfl (g1 + 2) _ rfl x7 ?_)
                have V := HV.out
                exact hK _ _ ⟨fun s => if s = 64 then one else z s, _, _, _, _, rfl, Lib.hid ⟨V.1, V.2.1, fun _ => rfl, V.2.2.2.1, V.2.2.2.2.1, V.2.2.2.2.2.1, V.2.2.2.2.2.2.1, V.2.2.2.2.2.2.2.1, V.2.2.2.2.2.2.2.2.1, V.2.2.2.2.2.2.2.2.2⟩, HW, HX⟩
              · rintro b a wy hb hd ⟨z, z63, z65, z71, z72, rfl, HV, HW, HX⟩ K hK
                simp [Region.binds] at hd
                have dd2 : b 2 = true := by simp [hd]
                have e3 : (z 64) = one := (HV.out.2.2.1) (by simp [hd])
                clear hd
                obtain ⟨x1, x2, x3, x4, x5, x6, x7, x8⟩ := HX.out
                have hsz9 : w.heap.size + 2 ≤ wy.heap.size := by have := HW.out.size; omega
                obtain ⟨A1, k1, B1, d1, e91, n1⟩ := (x1 dd2).ex HLS.out.1 HLS.out.2.1
                obtain ⟨A2, k2, B2, d2, e92, n2⟩ := x8.ex (n := 1) (m := 1) rfl rfl
                subst e91
                have C1 := both_any l l n1 n2 (by omega) (by omega) (by omega)
                rw [← e92] at C1
                clear e92 n2
                go_simp
                go_at_call 35
                refine (C1).mono ?_
                rintro e wz ⟨v, rfl, ow, kz⟩
                try go_simp
                have V := HV.out
                exact hK _ _ ⟨fun s => if s = 64 then one else z s, _, _, _, _, rfl, Lib.hid ⟨V.1, V.2.1, fun _ => rfl, V.2.2.2.1, V.2.2.2.2.1, V.2.2.2.2.2.1, V.2.2.2.2.2.2.1, V.2.2.2.2.2.2.2.1, V.2.2.2.2.2.2.2.2.1, V.2.2.2.2.2.2.2.2.2⟩, Lib.hid (HW.out.trans (kz.mono (by omega))), Lib.hid ⟨fun e => (x1 e).at kz, fun _ => ow.d.mono hsz9, fun e => (x3 e).at kz, fun e => (x4 e).at kz, fun e => (x5 e).below (by omega) kz, fun e => ⟨(x6 e).1, (x6 e).2.below (by omega) kz⟩, x7.below x7.lt kz, x8.at kz⟩⟩
              · rintro b a wy hb hd ⟨z, z63, z65, z71, z72, rfl, HV, HW, HX⟩ K hK
                clear hd
                have hbx := HBX4.out.below (by omega) HW.out
                refine if_wanted (by rfl) (wp_load_d (.tmp 3) rfl w.heap.size _ rfl (row_d hbx) ?_)
                have V := HV.out
                exact hK _ _ ⟨fun s => if s = 66 then .agg #[.bool l, .slice A m c, .slice B m d] else z s, _, _, _, _, rfl, Lib.hid ⟨V.1, V.2.1, V.2.2.1, fun _ => rfl, V.2.2.2.2.1, V.2.2.2.2.2.1, V.2.2.2.2.2.2.1, V.2.2.2.2.2.2.2.1, V.2.2.2.2.2.2.2.2.1, V.2.2.2.2.2.2.2.2.2⟩, HW, HX⟩
              · rintro b a wy hb hd ⟨z, z63, z65, z71, z72, rfl, HV, HW, HX⟩ K hK
                clear hd
                go_simp
                have V := HV.out
                exact hK _ _ ⟨fun s => if s = 67 then Value.int IntKind.i64 (j : Int) else z s, _, _, _, _, rfl, Lib.hid ⟨V.1, V.2.1, V.2.2.1, V.2.2.2.1, fun _ => rfl, V.2.2.2.2.2.1, V.2.2.2.2.2.2.1, V.2.2.2.2.2.2.2.1, V.2.2.2.2.2.2.2.2.1, V.2.2.2.2.2.2.2.2.2⟩, HW, HX⟩
              · rintro b a wy hb hd ⟨z, z63, z65, z71, z72, rfl, HV, HW, HX⟩ K hK
                clear hd
                go_simp
                have V := HV.out
                exact hK _ _ ⟨fun s => if s = 68 then .pointer (some ⟨w.heap.size, 1, none⟩) else z s, _, _, _, _, rfl, Lib.hid ⟨V.1, V.2.1, V.2.2.1, V.2.2.2.1, V.2.2.2.2.1, fun _ => rfl, V.2.2.2.2.2.2.1, V.2.2.2.2.2.2.2.1, V.2.2.2.2.2.2.2.2.1, V.2.2.2.2.2.2.2.2.2⟩, HW, HX⟩
              · rintro b a wy hb hd ⟨z, z63, z65, z71, z72, rfl, HV, HW, HX⟩ K hK
                simp [Region.binds] at hd
                have e7 : (z 68) = .pointer (some ⟨w.heap.size, 1, none⟩) := (HV.out.2.2.2.2.2.1) (by simp [hd])
                clear hd
                have hbx := HBX4.out.below (by omega) HW.out
                have c1 := hbx.cellAt (i := 1) rfl
                clear hbx
                go_simp
                have V := HV.out
                exact hK _ _ ⟨fun s => if s = 69 then .slice A m c else if s = 68 then .pointer (some ⟨w.heap.size, 1, none⟩) else z s, _, _, _, _, rfl, Lib.hid ⟨V.1, V.2.1, V.2.2.1, V.2.2.2.1, V.2.2.2.2.1, fun _ => rfl, fun _ => rfl, V.2.2.2.2.2.2.2.1, V.2.2.2.2.2.2.2.2.1, V.2.2.2.2.2.2.2.2.2⟩, HW, HX⟩
              · rintro b a wy hb hd ⟨z, z63, z65, z71, z72, rfl, HV, HW, HX⟩ K hK
                simp [Region.binds] at hd
                have e8 : (z 69) = .slice A m c := (HV.out.2.2.2.2.2.2.1) (by simp [hd])
                clear hd
                go_simp
                have V := HV.out
                exact hK _ _ ⟨fun s => if s = 70 then .int .i64 (m : Int) else if s = 69 then .slice A m c else z s, _, _, _, _, rfl, Lib.hid ⟨V.1, V.2.1, V.2.2.1, V.2.2.2.1, V.2.2.2.2.1, V.2.2.2.2.2.1, fun _ => rfl, fun _ => rfl, V.2.2.2.2.2.2.2.2.1, V.2.2.2.2.2.2.2.2.2⟩, HW, HX⟩
              · rintro b a wy hb hd ⟨z, z63, z65, z71, z72, rfl, HV, HW, HX⟩ K hK
                simp [Region.binds] at hd
                have e5 : (z 66) = .agg #[.bool l, .slice A m c, .slice B m d] := (HV.out.2.2.2.1) (by simp [hd])
                have e6 : (z 67) = Value.int IntKind.i64 (j : Int) := (HV.out.2.2.2.2.1) (by simp [hd])
                have e9 : (z 70) = .int .i64 (m : Int) := (HV.out.2.2.2.2.2.2.2.1) (by simp [hd])
                clear hd
                obtain ⟨x1, x2, x3, x4, x5, x6, x7, x8⟩ := HX.out
                have hsz9 : w.heap.size + 2 ≤ wy.heap.size := by have := HW.out.size; omega
                have HNy := Lib.hid (HN0.out.below (BB4.out.trans (HW.out.mono (by omega))))
                have C1 := part_any l HNy.out (j) m (by omega) (Nat.le_refl _) (by omega)
                go_simp
                go_at_call 36
                refine (C1).mono ?_
                rintro e wz ⟨v, rfl, ow, kz⟩
                try go_simp
                have V := HV.out
                exact hK _ _ ⟨fun s => if s = 66 then .agg #[.bool l, .slice A m c, .slice B m d] else if s = 67 then Value.int IntKind.i64 (j : Int) else if s = 70 then .int .i64 (m : Int) else z s, _, _, _, _, rfl, Lib.hid ⟨V.1, V.2.1, V.2.2.1, fun _ => rfl, fun _ => rfl, V.2.2.2.2.2.1, V.2.2.2.2.2.2.1, fun _ => rfl, V.2.2.2.2.2.2.2.2.1, V.2.2.2.2.2.2.2.2.2⟩, Lib.hid (HW.out.trans (kz.mono (by omega))), Lib.hid ⟨fun e => (x1 e).at kz, fun e => (x2 e).at kz, fun _ => ow.d.mono hsz9, fun e => (x4 e).at kz, fun e => (x5 e).below (by omega) kz, fun e => ⟨(x6 e).1, (x6 e).2.below (by omega) kz⟩, x7.below x7.lt kz, x8.at kz⟩⟩
              · rintro b a wy hb hd ⟨z, z63, z65, z71, z72, rfl, HV, HW, HX⟩ K hK
                simp [Region.binds] at hd
                have dd4 : b 4 = true := by simp [hd]
                have dd10 : b 10 = true := by simp [hd]
                clear hd
                obtain ⟨x1, x2, x3, x4, x5, x6, x7, x8⟩ := HX.out
                have hsz9 : w.heap.size + 2 ≤ wy.heap.size := by have := HW.out.size; omega
                obtain ⟨A1, k1, B1, d1, e91, n1⟩ := (x2 dd4).ex (n := j + 1) (m := j + 1) (by rw [List.length_append, HLS.out.1]; rfl) (by rw [List.length_append, HLS.out.2.1]; rfl)
                obtain ⟨A2, k2, B2, d2, e92, n2⟩ := (x3 dd10).ex HLS.out.2.2.1 HLS.out.2.2.2
                subst e91
                subst e92
                have bst : b 12 = false := by
                    rcases Bool.eq_false_or_eq_true (b 12) with e | e
                    · exact absurd (hb.symm.trans (x6 e).1) (by decide)
                    · exact e
                have C1 := both_any l l n1 n2 (by omega) (by omega) (by omega)
                go_simp
                go_at_call 35
                refine (C1).mono ?_
                rintro e wz ⟨v, rfl, ow, kz⟩
                try go_simp
                have V := HV.out
                exact hK _ _ ⟨fun s => z s, _, _, _, _, rfl, Lib.hid ⟨V.1, V.2.1, V.2.2.1, V.2.2.2.1, V.2.2.2.2.1, V.2.2.2.2.2.1, V.2.2.2.2.2.2.1, V.2.2.2.2.2.2.2.1, V.2.2.2.2.2.2.2.2.1, V.2.2.2.2.2.2.2.2.2⟩, Lib.hid (HW.out.trans (kz.mono (by omega))), Lib.hid ⟨fun e => (x1 e).at kz, fun e => (x2 e).at kz, fun e => (x3 e).at kz, fun _ => ow.d.mono hsz9, fun e => (x5 e).below (by omega) kz, fun e => absurd (bst.symm.trans e) (by decide), x7.below x7.lt kz, x8.at kz⟩⟩
              · rintro b a wy hb hd ⟨z, z63, z65, z71, z72, rfl, HV, HW, HX⟩ K hK
                simp [Region.binds] at hd
                have dd11 : b 11 = true := by simp [hd]
                clear hd
                obtain ⟨x1, x2, x3, x4, x5, x6, x7, x8⟩ := HX.out
                have hr := x5 hb
                refine if_wanted (by rfl) (wp_store_d (.tmp 6) (.tmp 72) rfl (w.heap.size + 1) (w.heap.size + 2) z72 _ l (mids ks 0 j ++ [k] ++ mids ks (j) m) (mids vs 0 j ++ [x] ++ mids vs (j) m) rfl rfl hr (x4 dd11) (fun cs HC => ?_))
                have V := HV.out
                exact hK _ _ ⟨fun s => z s, _, _, _, _, rfl, Lib.hid ⟨V.1, V.2.1, V.2.2.1, V.2.2.2.1, V.2.2.2.2.1, V.2.2.2.2.2.1, V.2.2.2.2.2.2.1, V.2.2.2.2.2.2.2.1, V.2.2.2.2.2.2.2.2.1, V.2.2.2.2.2.2.2.2.2⟩, Lib.hid (HW.out.trans (row_below _ (by omega))), Lib.hid ⟨fun e => (x1 e).row _ (by omega), fun e => (x2 e).row _ (by omega), fun e => (x3 e).row _ (by omega), fun e => (x4 e).row _ (by omega), fun e => (by cases e), fun _ => ⟨dd11, HC⟩, x7.other _ (by omega), x8.row _ (by omega)⟩⟩
              · rintro b a wy hb hd ⟨z, z63, z65, z71, z72, rfl, HV, HW, HX⟩ K hK
                clear hd
                go_simp
                have V := HV.out
                exact hK _ _ ⟨fun s => if s = 7 then Value.bool false else z s, _, _, _, _, rfl, Lib.hid ⟨V.1, V.2.1, V.2.2.1, V.2.2.2.1, V.2.2.2.2.1, V.2.2.2.2.2.1, V.2.2.2.2.2.2.1, V.2.2.2.2.2.2.2.1, fun _ => rfl, V.2.2.2.2.2.2.2.2.2⟩, HW, HX⟩
              · rintro b a wy hb hd ⟨z, z63, z65, z71, z72, rfl, HV, HW, HX⟩ K hK
                clear hd
                go_simp
                have V := HV.out
                exact hK _ _ ⟨fun s => if s = 8 then .int .i64 0 else z s, _, _, _, _, rfl, Lib.hid ⟨V.1, V.2.1, V.2.2.1, V.2.2.2.1, V.2.2.2.2.1, V.2.2.2.2.2.1, V.2.2.2.2.2.2.1, V.2.2.2.2.2.2.2.1, V.2.2.2.2.2.2.2.2.1, fun _ => rfl⟩, HW, HX⟩
            case doneF =>
              rintro b a w9 hb ⟨z, z63, z65, z71, z72, rfl, HV, HW, HX⟩
              have e0 := (HV.out.1) (hb 0)
              have e1 := (HV.out.2.1) (hb 1)
              have e3 := (HV.out.2.2.1) (hb 3)
              have e5 := (HV.out.2.2.2.1) (hb 5)
              have e6 := (HV.out.2.2.2.2.1) (hb 6)
              have e7 := (HV.out.2.2.2.2.2.1) (hb 7)
              have e8 := (HV.out.2.2.2.2.2.2.1) (hb 8)
              have e9 := (HV.out.2.2.2.2.2.2.2.1) (hb 9)
              have e13 := (HV.out.2.2.2.2.2.2.2.2.1) (hb 13)
              have e14 := (HV.out.2.2.2.2.2.2.2.2.2) (hb 14)
              simp only [e0, e1, e3, e5, e6, e7, e8, e9, e13, e14]
              clear HV e0 e1 e3 e5 e6 e7 e8 e9 e13 e14
              obtain ⟨_, _, _, x4, _, x6, _, _⟩ := HX.out
              have H9 := Lib.hid (x4 (hb 11))
              have HR9 := Lib.hid (x6 (hb 12)).2
              have HB9 := Lib.hid (BB4.out.trans (HW.out.mono (by omega)))
              clear x4 x6 HX HW hb
              go_wp2_with fail
              have hq := HQ.out
              subst hq
              have H0 := H9.out.mono (base' := w.heap.size) (by omega)
              exact bodyPost_ret (v := _) (res_node rfl _ rfl HR9.out) rfl ⟨_, rfl, by simpa only [List.append_assoc, List.singleton_append] using H0, HB9.out⟩
  · rw [decide_eq_false hok]
    obtain rfl : t = (zn, false, 30) := by rw [HT.out]; unfold putR; rw [if_neg hok]
    go_wp2_with (first | (refine wpList_build_as rfl 24 #[] rfl #[.bool false, .slice none 0 0, .slice none 0 0] (by simp [Act.eval]; exact node_bare) ?_) | (refine wpList_store_d rfl (.tmp 6) (.tmp 14) rfl (w.heap.size + 1) 0 zeroD _ false [] [] rfl rfl HR2.out (own_zero _ _) ?_; intro cs HC))
    exact bodyPost_ret (v := _) (res_node rfl _ rfl HC) rfl ⟨_, rfl, own_zero _ _, BB2.out.trans (row_below cs (by omega))⟩
end Go.Proofs.Ytllopocekegljaa.No
