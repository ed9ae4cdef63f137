/- Layer 12, the reference: the contract of Take. (Written by bin/gen_nrg.py.) -/
import Derived.Test.YtllopocekegljaaNrF
namespace Go.Proofs.Ytllopocekegljaa.No
open Go.RowKit Go.Proofs.Ytllopocekegljaa.Oct Go.Proofs.Ytllopocekegljaa.Lf Go.Proofs.Ytllopocekegljaa.Mv
set_option linter.unusedVariables false
set_option linter.unusedSimpArgs false

theorem cut_mids {ns : List UInt64} {n : Nat} (h : ns.length = n) (i j : Nat) (os : List UInt64) : cutIn ns i j os = mids ns 0 i ++ os ++ mids ns j n := by unfold cutIn; rw [mids_head, mids_tail j h]
theorem mids_length {ns : List UInt64} {n i j : Nat} (h : ns.length = n) (hj : j ≤ n) : (mids ns i j).length = j - i := by
  unfold mids
  rw [List.length_drop, List.length_take, h, Nat.min_eq_left hj]
theorem upto_in {ks : List UInt64} {k : UInt64} (h : k ∈ ks) : upto ks k = low ks k + 1 := by unfold upto; rw [if_pos h]
theorem upto_out {ks : List UInt64} {k : UInt64} (h : k ∉ ks) : upto ks k = low ks k := by unfold upto; rw [if_neg h]; rfl

set_option maxRecDepth 100000 in
set_option maxHeartbeats 4000000 in
theorem rtake_any (l : Bool) {w : World} {A B : Option Addr} {n c m d : Nat} {ks vs : List UInt64} (h : Nd w A n c B m d ks vs) (k : UInt64) (t : PN × UInt64 × Nat) (ht : t = takeR l ks vs k) :
    Calls Try.prog 18 #[.agg #[.bool l, .slice A n c, .slice B m d], .int .u64 (k.toNat : Int)] w fun e w' => ∃ v, e = .returned (.tuple #[v, .int .u64 (t.2.1.toNat : Int), .int .i64 (t.2.2 : Nat)]) ∧ OwnD w' w.heap.size v t.1.1 t.1.2.1 t.1.2.2 ∧ Below w.heap.size w w' := by
  have b1 := (Below.refl w.heap.size w).alloc (Nat.le_refl _) (.cells #[.bool l, .slice A n c, .slice B m d] 24)
  have BB := Lib.hid (b1.alloc b1.size (.cells #[.bool false, .slice none 0 0, .slice none 0 0] 24))
  have HBX := Lib.hid ((box_row w l A n c B m d).below (by simp) ((Below.refl _ _).alloc (Nat.le_refl _) (.cells #[.bool false, .slice none 0 0, .slice none 0 0] 24)))
  have HR := Lib.hid (box_d (w.alloc (.cells #[.bool l, .slice A n c, .slice B m d] 24)) (.bool false) (.slice none 0 0) (.slice none 0 0))
  rw [show (w.alloc (.cells #[.bool l, .slice A n c, .slice B m d] 24)).heap.size = w.heap.size + 1 by simp] at HR
  have HN := Lib.hid (h.below BB.out)
  have kl := h.kl
  have HT := Lib.hid ht
  have hz := node_zero
  have hs2 : ((w.alloc (.cells #[.bool l, .slice A n c, .slice B m d] 24)).alloc (.cells #[.bool false, .slice none 0 0, .slice none 0 0] 24)).heap.size = w.heap.size + 2 := by simp
  have HN0 := Lib.hid h
  clear h ht b1
  go_enter Try.func18, Try.ntmps18
  go_wp2_with fail
  generalize (w.alloc (.cells #[.bool l, .slice A n c, .slice B m d] 24)).alloc (.cells #[.bool false, .slice none 0 0, .slice none 0 0] 24) = w1 at *
  refine (rright_any l HN.out).mono ?_
  rintro e w2 ⟨rfl, B2⟩
  have BB2 := Lib.hid (BB.out.trans (B2.mono BB.out.size))
  have HBX2 := Lib.hid (HBX.out.below HBX.out.lt B2)
  have HR2 := Lib.hid (HR.out.below HR.out.lt B2)
  have HN2 := Lib.hid (HN.out.below B2)
  have hw2 : w.heap.size + 2 ≤ w2.heap.size := by have := B2.size; omega
  clear B2
  by_cases hok : Ok l ks vs
  · rw [decide_eq_true hok]
    obtain rfl : m = n := by rw [← HN.out.vl, ← kl]; exact hok.2.1
    have h7 := hok.1
    have HK := Lib.hid hok
    have E := Lib.hid (show t = (if k ∈ ks then (if l = false ∧ ks.length = 1 then (zn, 0, 122) else ((l, cutIn ks (low ks k) (upto ks k) [], cutIn vs (low ks k) (upto ks k) []), vs.getD (low ks k) 0, 0)) else (zn, 0, 121)) by rw [HT.out]; unfold takeR; rw [if_pos hok])
    clear hok
    go_wp2_with (first | (refine wpList_load_d rfl (.tmp 2) rfl w.heap.size _ rfl (row_d HBX2.out) ?_))
    refine (rplace_any l HN2.out HK.out.2.2.1 (by omega) k).mono ?_
    rintro e w3 ⟨rfl, B3⟩
    have BB3 := Lib.hid (BB2.out.trans (B3.mono BB2.out.size))
    have HBX3 := Lib.hid (HBX2.out.below HBX2.out.lt B3)
    have HR3 := Lib.hid (HR2.out.below HR2.out.lt B3)
    have HN3 := Lib.hid (HN2.out.below B3)
    have hw3 : w.heap.size + 2 ≤ w3.heap.size := by have := B3.size; omega
    clear B3
    have l1 := low_le ks k
    have c0 := HBX3.out.cellAt (i := 0) rfl
    have c1 := HBX3.out.cellAt (i := 1) rfl
    by_cases hk : k ∈ ks
    · have hpl : plR ks k = ((low ks k : Nat) : Int) := if_pos hk
      have hlk := low_lt hk
      rw [hpl]
      clear hpl
      have hng : ¬ ((low ks k : Nat) : Int) < 0 := by omega
      by_cases hl : l = false ∧ ks.length = 1
      · obtain ⟨rfl, hl1⟩ := hl
        obtain rfl : m = 1 := by omega
        have E2 := E.out
        rw [if_pos hk, if_pos ⟨rfl, hl1⟩] at E2
        subst E2
        go_wp2_with (first | (refine wpList_build_as rfl 24 #[] rfl #[.bool false, .slice none 0 0, .slice none 0 0] (by simp [Act.eval]; exact node_bare) ?_) | (refine wpList_store_d rfl (.tmp 4) (.tmp 27) rfl (w.heap.size + 1) 0 zeroD _ false [] [] rfl rfl HR3.out (own_zero _ _) ?_; intro cs HC))
        exact bodyPost_ret (v := _) (res_node rfl _ rfl HC) rfl ⟨_, rfl, own_zero _ _, BB3.out.trans (row_below cs (by omega))⟩
      · have E2 := E.out
        rw [if_pos hk, if_neg hl, upto_in hk, cut_mids HN0.out.kl, cut_mids HN0.out.vl, List.append_nil, List.append_nil] at E2
        have hlv : low ks k < vs.length := by rw [HN0.out.vl, ← kl]; exact hlk
        obtain ⟨bk, o, rfl, hH⟩ := HN0.out.vs.has (by omega)
        have HVAL := Lib.hid (hH (low ks k) hlv)
        have hbl := World.block_lt_of_cell? w _ HVAL.out
        clear hH
        obtain ⟨val, hval⟩ : ∃ v, v = vs[low ks k] := ⟨_, rfl⟩
        rw [show vs.getD (low ks k) 0 = val by rw [List.getD_eq_getElem?_getD, List.getElem?_eq_getElem hlv, hval]; rfl] at E2
        rw [← hval] at HVAL
        clear hval E
        subst E2
        obtain ⟨q, hq⟩ : ∃ q, low ks k = q := ⟨_, rfl⟩
        rw [hq] at hlk hlv HVAL hng ⊢
        have HQ := Lib.hid hq
        have hlm : q < m := by rw [← HN0.out.vl]; exact hlv
        have hlmi : (q : Int) < (m : Int) := by omega
        have hL1 := mids_length (i := 0) (j := q) kl (by omega)
        have hL2 := mids_length (i := 0) (j := q) HN0.out.vl (by omega)
        have hL3 := mids_length (i := q + 1) (j := m) kl (Nat.le_refl _)
        have hL4 := mids_length (i := q + 1) (j := m) HN0.out.vl (Nat.le_refl _)
        have HLS := Lib.hid (And.intro hL1 (And.intro hL2 (And.intro hL3 hL4)))
        clear hq l1 hL1 hL2 hL3 hL4 hlv hlk
        cases l
        · have hm1 : ((m : Int) == 1) = false := by
            rw [beq_eq_false_iff_ne]
            exact fun e => hl ⟨rfl, by omega⟩
          clear hl
          go_upto_region 8 with (fail)
          refine Inv2.wp_region_inv (fun b a wy => ∃ (z : Nat → Value) (z30 : Value) (z37 : Value) (z38 : Value), a = ⟨(List.toArray (Value.agg #[Value.bool false, Value.slice A m c, Value.slice (some ⟨bk, o, none⟩) m d] :: Value.int IntKind.u64 ↑k.toNat :: Value.pointer (some ⟨w.heap.size, 0, none⟩) :: undef :: Value.pointer (some ⟨w.heap.size + 1, 0, none⟩) :: (z 5) :: (z 6) :: Value.int IntKind.i64 (q : Int) :: Value.agg #[Value.bool false, Value.slice A m c, Value.slice (some ⟨bk, o, none⟩) m d] :: Value.bool true :: Value.bool false :: undef :: Value.agg #[Value.bool false, Value.slice A m c, Value.slice (some ⟨bk, o, none⟩) m d] :: Value.int IntKind.u64 ↑k.toNat :: Value.int IntKind.i64 (q : Int) :: Value.int IntKind.i64 (q : Int) :: Value.bool (decide ((q : Int) < 0)) :: undef :: Value.pointer (some ⟨w.heap.size, 0, none⟩) :: Value.bool false :: Value.bool true :: Value.bool true :: Value.pointer (some ⟨w.heap.size, 1, none⟩) :: Value.slice A m c :: Value.int IntKind.i64 (m : Int) :: Value.bool false :: Value.bool false :: undef :: (z 28) :: (z 29) :: z30 :: (z 31) :: (z 32) :: (z 33) :: (z 34) :: (z 35) :: (z 36) :: z37 :: z38 :: (z 39) :: (z 40) :: (z 41) :: (z 42) :: (z 43) :: [])), []⟩ ∧ Hid ((b 0 = true → (z 28) = .agg #[.bool false, .slice A m c, .slice (some ⟨bk, o, none⟩) m d]) ∧ (b 1 = true → (z 29) = Value.int IntKind.i64 (q : Int)) ∧ (b 3 = true → (z 31) = .agg #[.bool false, .slice A m c, .slice (some ⟨bk, o, none⟩) m d]) ∧ (b 4 = true → (z 32) = Value.int IntKind.i64 (q : Int)) ∧ (b 5 = true → (z 33) = .int .i64 ((q : Int) + 1)) ∧ (b 6 = true → (z 34) = .pointer (some ⟨w.heap.size, 1, none⟩)) ∧ (b 7 = true → (z 35) = .slice A m c) ∧ (b 8 = true → (z 36) = .int .i64 (m : Int)) ∧ (b 11 = true → (z 39) = .pointer (some ⟨w.heap.size, 2, none⟩)) ∧ (b 12 = true → (z 40) = .slice (some ⟨bk, o, none⟩) m d) ∧ (b 13 = true → (z 41) = Value.int IntKind.i64 (q : Int)) ∧ (b 14 = true → (z 42) = .pointer (some ⟨bk, o + q, none⟩)) ∧ (b 15 = true → (z 43) = .int .u64 (val.toNat : Int)) ∧ (b 17 = true → (z 5) = .int .u64 (val.toNat : Int)) ∧ (b 18 = true → (z 6) = .int .i64 0)) ∧ Hid (Below (w.heap.size + 1) w3 wy) ∧ Hid ((b 2 = true → OwnD wy (w.heap.size + 2) z30 false (mids ks 0 q) (mids vs 0 q)) ∧ (b 9 = true → OwnD wy (w.heap.size + 2) z37 false (mids ks (q + 1) m) (mids vs (q + 1) m)) ∧ (b 10 = true → OwnD wy (w.heap.size + 2) z38 false (mids ks 0 q ++ mids ks (q + 1) m) (mids vs 0 q ++ mids vs (q + 1) m)) ∧ (b 16 = false → BoxD wy (w.heap.size + 1) zeroD) ∧ (b 16 = true → b 10 = true ∧ BoxD wy (w.heap.size + 1) z38))) (by kernel_rfl) (by kernel_rfl) ?startD ?stepsD ?doneD
          case startD =>
            intro b hb
            refine ⟨fun s => if s = 5 then Value.int IntKind.u64 0 else if s = 6 then Value.int IntKind.i64 0 else undef, undef, undef, undef, rfl, Lib.hid ⟨?_, ?_, ?_, ?_, ?_, ?_, ?_, ?_, ?_, ?_, ?_, ?_, ?_, ?_, ?_⟩, Lib.hid ((show Still w3 w3.drew from ⟨rfl, rfl, rfl, rfl⟩).below _), Lib.hid (⟨(fun e => by rw [hb _ (by decide)] at e; cases e), (fun e => by rw [hb _ (by decide)] at e; cases e), (fun e => by rw [hb _ (by decide)] at e; cases e), fun _ => HR3.out, (fun e => by rw [hb _ (by decide)] at e; cases e)⟩)⟩
            all_goals (intro e; first | rfl | (rw [hb _ (by decide)] at e; cases e))
          case stepsD =>
            refine ⟨?_, ?_, ?_, ?_, ?_, ?_, ?_, ?_, ?_, ?_, ?_, ?_, ?_, ?_, ?_, ?_, ?_, ?_, ?_, trivial⟩
            · rintro b a wy hb hd ⟨z, z30, z37, z38, rfl, HV, HW, HX⟩ K hK
              clear hd
              have hbx := HBX3.out.below (by omega) HW.out
              refine if_wanted (by rfl) (wp_load_d (.tmp 2) rfl w.heap.size _ rfl (row_d hbx) ?_)
              have V := HV.out
              have V10 := V.2.2.2.2.2.2.2.2.2.2
              exact hK _ _ ⟨fun s => if s = 28 then .agg #[.bool false, .slice A m c, .slice (some ⟨bk, o, none⟩) m d] else z s, _, _, _, rfl, Lib.hid ⟨fun _ => rfl, V.2.1, V.2.2.1, V.2.2.2.1, V.2.2.2.2.1, V.2.2.2.2.2.1, V.2.2.2.2.2.2.1, V.2.2.2.2.2.2.2.1, V.2.2.2.2.2.2.2.2.1, V.2.2.2.2.2.2.2.2.2.1, V10.1, V10.2.1, V10.2.2.1, V10.2.2.2.1, V10.2.2.2.2⟩, HW, HX⟩
            · rintro b a wy hb hd ⟨z, z30, z37, z38, rfl, HV, HW, HX⟩ K hK
              clear hd
              go_simp
              have V := HV.out
              have V10 := V.2.2.2.2.2.2.2.2.2.2
              exact hK _ _ ⟨fun s => if s = 29 then Value.int IntKind.i64 (q : Int) else z s, _, _, _, rfl, Lib.hid ⟨V.1, fun _ => rfl, V.2.2.1, V.2.2.2.1, V.2.2.2.2.1, V.2.2.2.2.2.1, V.2.2.2.2.2.2.1, V.2.2.2.2.2.2.2.1, V.2.2.2.2.2.2.2.2.1, V.2.2.2.2.2.2.2.2.2.1, V10.1, V10.2.1, V10.2.2.1, V10.2.2.2.1, V10.2.2.2.2⟩, HW, HX⟩
            · rintro b a wy hb hd ⟨z, z30, z37, z38, rfl, HV, HW, HX⟩ K hK
              simp [Region.binds] at hd
              have e0 : (z 28) = .agg #[.bool false, .slice A m c, .slice (some ⟨bk, o, none⟩) m d] := (HV.out.1) (by simp [hd])
              have e1 : (z 29) = Value.int IntKind.i64 (q : Int) := (HV.out.2.1) (by simp [hd])
              clear hd
              obtain ⟨x1, x2, x3, x4, x5⟩ := HX.out
              have hsz9 : w.heap.size + 2 ≤ wy.heap.size := by have := HW.out.size; omega
              have HNy := Lib.hid (HN0.out.below (BB3.out.trans (HW.out.mono (by omega))))
              have C1 := part_any false HNy.out 0 q (Nat.zero_le _) (by omega) (by omega)
              go_simp
              go_at_call 36
              refine (C1).mono ?_
              rintro e wz ⟨v, rfl, ow, kz⟩
              try go_simp
              have V := HV.out
              have V10 := V.2.2.2.2.2.2.2.2.2.2
              exact hK _ _ ⟨fun s => if s = 28 then .agg #[.bool false, .slice A m c, .slice (some ⟨bk, o, none⟩) m d] else if s = 29 then Value.int IntKind.i64 (q : Int) else z s, _, _, _, rfl, Lib.hid ⟨fun _ => rfl, fun _ => rfl, V.2.2.1, V.2.2.2.1, V.2.2.2.2.1, V.2.2.2.2.2.1, V.2.2.2.2.2.2.1, V.2.2.2.2.2.2.2.1, V.2.2.2.2.2.2.2.2.1, V.2.2.2.2.2.2.2.2.2.1, V10.1, V10.2.1, V10.2.2.1, V10.2.2.2.1, V10.2.2.2.2⟩, Lib.hid (HW.out.trans (kz.mono (by omega))), Lib.hid ⟨fun _ => ow.d.mono hsz9, fun e => (x2 e).at kz, fun e => (x3 e).at kz, fun e => (x4 e).below (by omega) kz, fun e => ⟨(x5 e).1, (x5 e).2.below (by omega) kz⟩⟩⟩
            · rintro b a wy hb hd ⟨z, z30, z37, z38, rfl, HV, HW, HX⟩ K hK
              clear hd
              have hbx := HBX3.out.below (by omega) HW.out
              refine if_wanted (by rfl) (wp_load_d (.tmp 2) rfl w.heap.size _ rfl (row_d hbx) ?_)
              have V := HV.out
              have V10 := V.2.2.2.2.2.2.2.2.2.2
              exact hK _ _ ⟨fun s => if s = 31 then .agg #[.bool false, .slice A m c, .slice (some ⟨bk, o, none⟩) m d] else z s, _, _, _, rfl, Lib.hid ⟨V.1, V.2.1, fun _ => rfl, V.2.2.2.1, V.2.2.2.2.1, V.2.2.2.2.2.1, V.2.2.2.2.2.2.1, V.2.2.2.2.2.2.2.1, V.2.2.2.2.2.2.2.2.1, V.2.2.2.2.2.2.2.2.2.1, V10.1, V10.2.1, V10.2.2.1, V10.2.2.2.1, V10.2.2.2.2⟩, HW, HX⟩
            · rintro b a wy hb hd ⟨z, z30, z37, z38, rfl, HV, HW, HX⟩ K hK
              clear hd
              go_simp
              have V := HV.out
              have V10 := V.2.2.2.2.2.2.2.2.2.2
              exact hK _ _ ⟨fun s => if s = 32 then Value.int IntKind.i64 (q : Int) else z s, _, _, _, rfl, Lib.hid ⟨V.1, V.2.1, V.2.2.1, fun _ => rfl, V.2.2.2.2.1, V.2.2.2.2.2.1, V.2.2.2.2.2.2.1, V.2.2.2.2.2.2.2.1, V.2.2.2.2.2.2.2.2.1, V.2.2.2.2.2.2.2.2.2.1, V10.1, V10.2.1, V10.2.2.1, V10.2.2.2.1, V10.2.2.2.2⟩, HW, HX⟩
            · rintro b a wy hb hd ⟨z, z30, z37, z38, rfl, HV, HW, HX⟩ K hK
              simp [Region.binds] at hd
              have e4 : (z 32) = Value.int IntKind.i64 (q : Int) := (HV.out.2.2.2.1) (by simp [hd])
              clear hd
              have hwq : IntKind.i64.wrap ((q : Int) + 1) = (q : Int) + 1 := IntWalk.i64_in _ (by omega)
              go_simp
              have V := HV.out
              have V10 := V.2.2.2.2.2.2.2.2.2.2
              exact hK _ _ ⟨fun s => if s = 33 then .int .i64 ((q : Int) + 1) else if s = 32 then Value.int IntKind.i64 (q : Int) else z s, _, _, _, rfl, Lib.hid ⟨V.1, V.2.1, V.2.2.1, fun _ => rfl, fun _ => rfl, V.2.2.2.2.2.1, V.2.2.2.2.2.2.1, V.2.2.2.2.2.2.2.1, V.2.2.2.2.2.2.2.2.1, V.2.2.2.2.2.2.2.2.2.1, V10.1, V10.2.1, V10.2.2.1, V10.2.2.2.1, V10.2.2.2.2⟩, HW, HX⟩
            · rintro b a wy hb hd ⟨z, z30, z37, z38, rfl, HV, HW, HX⟩ K hK
              clear hd
              go_simp
              have V := HV.out
              have V10 := V.2.2.2.2.2.2.2.2.2.2
              exact hK _ _ ⟨fun s => if s = 34 then .pointer (some ⟨w.heap.size, 1, none⟩) else z s, _, _, _, rfl, Lib.hid ⟨V.1, V.2.1, V.2.2.1, V.2.2.2.1, V.2.2.2.2.1, fun _ => rfl, V.2.2.2.2.2.2.1, V.2.2.2.2.2.2.2.1, V.2.2.2.2.2.2.2.2.1, V.2.2.2.2.2.2.2.2.2.1, V10.1, V10.2.1, V10.2.2.1, V10.2.2.2.1, V10.2.2.2.2⟩, HW, HX⟩
            · rintro b a wy hb hd ⟨z, z30, z37, z38, rfl, HV, HW, HX⟩ K hK
              simp [Region.binds] at hd
              have e6 : (z 34) = .pointer (some ⟨w.heap.size, 1, none⟩) := (HV.out.2.2.2.2.2.1) (by simp [hd])
              clear hd
              have hbx := HBX3.out.below (by omega) HW.out
              have c1 := hbx.cellAt (i := 1) rfl
              clear hbx
              go_simp
              have V := HV.out
              have V10 := V.2.2.2.2.2.2.2.2.2.2
              exact hK _ _ ⟨fun s => if s = 35 then .slice A m c else if s = 34 then .pointer (some ⟨w.heap.size, 1, none⟩) else z s, _, _, _, rfl, Lib.hid ⟨V.1, V.2.1, V.2.2.1, V.2.2.2.1, V.2.2.2.2.1, fun _ => rfl, fun _ => rfl, V.2.2.2.2.2.2.2.1, V.2.2.2.2.2.2.2.2.1, V.2.2.2.2.2.2.2.2.2.1, V10.1, V10.2.1, V10.2.2.1, V10.2.2.2.1, V10.2.2.2.2⟩, HW, HX⟩
            · rintro b a wy hb hd ⟨z, z30, z37, z38, rfl, HV, HW, HX⟩ K hK
              simp [Region.binds] at hd
              have e7 : (z 35) = .slice A m c := (HV.out.2.2.2.2.2.2.1) (by simp [hd])
              clear hd
              go_simp
              have V := HV.out
              have V10 := V.2.2.2.2.2.2.2.2.2.2
              exact hK _ _ ⟨fun s => if s = 36 then .int .i64 (m : Int) else if s = 35 then .slice A m c else z s, _, _, _, rfl, Lib.hid ⟨V.1, V.2.1, V.2.2.1, V.2.2.2.1, V.2.2.2.2.1, V.2.2.2.2.2.1, fun _ => rfl, fun _ => rfl, V.2.2.2.2.2.2.2.2.1, V.2.2.2.2.2.2.2.2.2.1, V10.1, V10.2.1, V10.2.2.1, V10.2.2.2.1, V10.2.2.2.2⟩, HW, HX⟩
            · rintro b a wy hb hd ⟨z, z30, z37, z38, rfl, HV, HW, HX⟩ K hK
              simp [Region.binds] at hd
              have e3 : (z 31) = .agg #[.bool false, .slice A m c, .slice (some ⟨bk, o, none⟩) m d] := (HV.out.2.2.1) (by simp [hd])
              have e5 : (z 33) = .int .i64 ((q : Int) + 1) := (HV.out.2.2.2.2.1) (by simp [hd])
              have e8 : (z 36) = .int .i64 (m : Int) := (HV.out.2.2.2.2.2.2.2.1) (by simp [hd])
              clear hd
              obtain ⟨x1, x2, x3, x4, x5⟩ := HX.out
              have hsz9 : w.heap.size + 2 ≤ wy.heap.size := by have := HW.out.size; omega
              have HNy := Lib.hid (HN0.out.below (BB3.out.trans (HW.out.mono (by omega))))
              have C1 := part_any false HNy.out (q + 1) m (by omega) (Nat.le_refl _) (by omega)
              rw [show (((q + 1 : Nat)) : Int) = (q : Int) + 1 by omega] at C1
              go_simp
              go_at_call 36
              refine (C1).mono ?_
              rintro e wz ⟨v, rfl, ow, kz⟩
              try go_simp
              have V := HV.out
              have V10 := V.2.2.2.2.2.2.2.2.2.2
              exact hK _ _ ⟨fun s => if s = 31 then .agg #[.bool false, .slice A m c, .slice (some ⟨bk, o, none⟩) m d] else if s = 33 then .int .i64 ((q : Int) + 1) else if s = 36 then .int .i64 (m : Int) else z s, _, _, _, rfl, Lib.hid ⟨V.1, V.2.1, fun _ => rfl, V.2.2.2.1, fun _ => rfl, V.2.2.2.2.2.1, V.2.2.2.2.2.2.1, fun _ => rfl, V.2.2.2.2.2.2.2.2.1, V.2.2.2.2.2.2.2.2.2.1, V10.1, V10.2.1, V10.2.2.1, V10.2.2.2.1, V10.2.2.2.2⟩, Lib.hid (HW.out.trans (kz.mono (by omega))), Lib.hid ⟨fun e => (x1 e).at kz, fun _ => ow.d.mono hsz9, fun e => (x3 e).at kz, fun e => (x4 e).below (by omega) kz, fun e => ⟨(x5 e).1, (x5 e).2.below (by omega) kz⟩⟩⟩
            · rintro b a wy hb hd ⟨z, z30, z37, z38, rfl, HV, HW, HX⟩ K hK
              simp [Region.binds] at hd
              have dd2 : b 2 = true := by simp [hd]
              have dd9 : b 9 = true := by simp [hd]
              clear hd
              obtain ⟨x1, x2, x3, x4, x5⟩ := HX.out
              have hsz9 : w.heap.size + 2 ≤ wy.heap.size := by have := HW.out.size; omega
              obtain ⟨A1, k1, B1, d1, e91, n1⟩ := (x1 dd2).ex HLS.out.1 HLS.out.2.1
              obtain ⟨A2, k2, B2, d2, e92, n2⟩ := (x2 dd9).ex HLS.out.2.2.1 HLS.out.2.2.2
              subst e91
              subst e92
              have b16 : b 16 = false := by
                  rcases Bool.eq_false_or_eq_true (b 16) with e | e
                  · exact absurd (hb.symm.trans (x5 e).1) (by decide)
                  · exact e
              have C1 := both_any false false n1 n2 (by omega) (by omega) (by omega)
              go_simp
              go_at_call 35
              refine (C1).mono ?_
              rintro e wz ⟨v, rfl, ow, kz⟩
              try go_simp
              have V := HV.out
              have V10 := V.2.2.2.2.2.2.2.2.2.2
              exact hK _ _ ⟨fun s => z s, _, _, _, rfl, Lib.hid ⟨V.1, V.2.1, V.2.2.1, V.2.2.2.1, V.2.2.2.2.1, V.2.2.2.2.2.1, V.2.2.2.2.2.2.1, V.2.2.2.2.2.2.2.1, V.2.2.2.2.2.2.2.2.1, V.2.2.2.2.2.2.2.2.2.1, V10.1, V10.2.1, V10.2.2.1, V10.2.2.2.1, V10.2.2.2.2⟩, Lib.hid (HW.out.trans (kz.mono (by omega))), Lib.hid ⟨fun e => (x1 e).at kz, fun e => (x2 e).at kz, fun _ => ow.d.mono hsz9, fun e => (x4 e).below (by omega) kz, fun e => absurd (b16.symm.trans e) (by decide)⟩⟩
            · rintro b a wy hb hd ⟨z, z30, z37, z38, rfl, HV, HW, HX⟩ K hK
              clear hd
              go_simp
              have V := HV.out
              have V10 := V.2.2.2.2.2.2.2.2.2.2
              exact hK _ _ ⟨fun s => if s = 39 then .pointer (some ⟨w.heap.size, 2, none⟩) else z s, _, _, _, rfl, Lib.hid ⟨V.1, V.2.1, V.2.2.1, V.2.2.2.1, V.2.2.2.2.1, V.2.2.2.2.2.1, V.2.2.2.2.2.2.1, V.2.2.2.2.2.2.2.1, fun _ => rfl, V.2.2.2.2.2.2.2.2.2.1, V10.1, V10.2.1, V10.2.2.1, V10.2.2.2.1, V10.2.2.2.2⟩, HW, HX⟩
            · rintro b a wy hb hd ⟨z, z30, z37, z38, rfl, HV, HW, HX⟩ K hK
              simp [Region.binds] at hd
              have e11 : (z 39) = .pointer (some ⟨w.heap.size, 2, none⟩) := (HV.out.2.2.2.2.2.2.2.2.1) (by simp [hd])
              clear hd
              have hbx := HBX3.out.below (by omega) HW.out
              have c2 := hbx.cellAt (i := 2) rfl
              clear hbx
              go_simp
              have V := HV.out
              have V10 := V.2.2.2.2.2.2.2.2.2.2
              exact hK _ _ ⟨fun s => if s = 40 then .slice (some ⟨bk, o, none⟩) m d else if s = 39 then .pointer (some ⟨w.heap.size, 2, none⟩) else z s, _, _, _, rfl, Lib.hid ⟨V.1, V.2.1, V.2.2.1, V.2.2.2.1, V.2.2.2.2.1, V.2.2.2.2.2.1, V.2.2.2.2.2.2.1, V.2.2.2.2.2.2.2.1, fun _ => rfl, fun _ => rfl, V10.1, V10.2.1, V10.2.2.1, V10.2.2.2.1, V10.2.2.2.2⟩, HW, HX⟩
            · rintro b a wy hb hd ⟨z, z30, z37, z38, rfl, HV, HW, HX⟩ K hK
              clear hd
              go_simp
              have V := HV.out
              have V10 := V.2.2.2.2.2.2.2.2.2.2
              exact hK _ _ ⟨fun s => if s = 41 then Value.int IntKind.i64 (q : Int) else z s, _, _, _, rfl, Lib.hid ⟨V.1, V.2.1, V.2.2.1, V.2.2.2.1, V.2.2.2.2.1, V.2.2.2.2.2.1, V.2.2.2.2.2.2.1, V.2.2.2.2.2.2.2.1, V.2.2.2.2.2.2.2.2.1, V.2.2.2.2.2.2.2.2.2.1, fun _ => rfl, V10.2.1, V10.2.2.1, V10.2.2.2.1, V10.2.2.2.2⟩, HW, HX⟩
            · rintro b a wy hb hd ⟨z, z30, z37, z38, rfl, HV, HW, HX⟩ K hK
              simp [Region.binds] at hd
              have e12 : (z 40) = .slice (some ⟨bk, o, none⟩) m d := (HV.out.2.2.2.2.2.2.2.2.2.1) (by simp [hd])
              have e13 : (z 41) = Value.int IntKind.i64 (q : Int) := (HV.out.2.2.2.2.2.2.2.2.2.2.1) (by simp [hd])
              clear hd
              go_simp
              have V := HV.out
              have V10 := V.2.2.2.2.2.2.2.2.2.2
              exact hK _ _ ⟨fun s => if s = 42 then .pointer (some ⟨bk, o + q, none⟩) else if s = 40 then .slice (some ⟨bk, o, none⟩) m d else if s = 41 then Value.int IntKind.i64 (q : Int) else z s, _, _, _, rfl, Lib.hid ⟨V.1, V.2.1, V.2.2.1, V.2.2.2.1, V.2.2.2.2.1, V.2.2.2.2.2.1, V.2.2.2.2.2.2.1, V.2.2.2.2.2.2.2.1, V.2.2.2.2.2.2.2.2.1, fun _ => rfl, fun _ => rfl, fun _ => rfl, V10.2.2.1, V10.2.2.2.1, V10.2.2.2.2⟩, HW, HX⟩
            · rintro b a wy hb hd ⟨z, z30, z37, z38, rfl, HV, HW, HX⟩ K hK
              simp [Region.binds] at hd
              have e14 : (z 42) = .pointer (some ⟨bk, o + q, none⟩) := (HV.out.2.2.2.2.2.2.2.2.2.2.2.1) (by simp [hd])
              clear hd
              have cv := ((BB3.out.trans (HW.out.mono (by omega))).cell (p := ⟨bk, o + q, none⟩) hbl).trans HVAL.out
              go_simp
              have V := HV.out
              have V10 := V.2.2.2.2.2.2.2.2.2.2
              exact hK _ _ ⟨fun s => if s = 43 then .int .u64 (val.toNat : Int) else if s = 42 then .pointer (some ⟨bk, o + q, none⟩) else z s, _, _, _, rfl, Lib.hid ⟨V.1, V.2.1, V.2.2.1, V.2.2.2.1, V.2.2.2.2.1, V.2.2.2.2.2.1, V.2.2.2.2.2.2.1, V.2.2.2.2.2.2.2.1, V.2.2.2.2.2.2.2.2.1, V.2.2.2.2.2.2.2.2.2.1, V10.1, fun _ => rfl, fun _ => rfl, V10.2.2.2.1, V10.2.2.2.2⟩, HW, HX⟩
            · rintro b a wy hb hd ⟨z, z30, z37, z38, rfl, HV, HW, HX⟩ K hK
              simp [Region.binds] at hd
              have dd10 : b 10 = true := by simp [hd]
              clear hd
              obtain ⟨x1, x2, x3, x4, x5⟩ := HX.out
              have hr := x4 hb
              refine if_wanted (by rfl) (wp_store_d (.tmp 4) (.tmp 38) rfl (w.heap.size + 1) (w.heap.size + 2) z38 _ false (mids ks 0 q ++ mids ks (q + 1) m) (mids vs 0 q ++ mids vs (q + 1) m) rfl rfl hr (x3 dd10) (fun cs HC => ?_))
              have V := HV.out
              have V10 := V.2.2.2.2.2.2.2.2.2.2
              exact hK _ _ ⟨fun s => z s, _, _, _, rfl, Lib.hid ⟨V.1, V.2.1, V.2.2.1, V.2.2.2.1, V.2.2.2.2.1, V.2.2.2.2.2.1, V.2.2.2.2.2.2.1, V.2.2.2.2.2.2.2.1, V.2.2.2.2.2.2.2.2.1, V.2.2.2.2.2.2.2.2.2.1, V10.1, V10.2.1, V10.2.2.1, V10.2.2.2.1, V10.2.2.2.2⟩, Lib.hid (HW.out.trans (row_below _ (by omega))), Lib.hid ⟨fun e => (x1 e).row _ (by omega), fun e => (x2 e).row _ (by omega), fun e => (x3 e).row _ (by omega), fun e => (by cases e), fun _ => ⟨dd10, HC⟩⟩⟩
            · rintro b a wy hb hd ⟨z, z30, z37, z38, rfl, HV, HW, HX⟩ K hK
              simp [Region.binds] at hd
              have e15 : (z 43) = .int .u64 (val.toNat : Int) := (HV.out.2.2.2.2.2.2.2.2.2.2.2.2.1) (by simp [hd])
              clear hd
              go_simp
              have V := HV.out
              have V10 := V.2.2.2.2.2.2.2.2.2.2
              exact hK _ _ ⟨fun s => if s = 5 then .int .u64 (val.toNat : Int) else if s = 43 then .int .u64 (val.toNat : Int) else z s, _, _, _, rfl, Lib.hid ⟨V.1, V.2.1, V.2.2.1, V.2.2.2.1, V.2.2.2.2.1, V.2.2.2.2.2.1, V.2.2.2.2.2.2.1, V.2.2.2.2.2.2.2.1, V.2.2.2.2.2.2.2.2.1, V.2.2.2.2.2.2.2.2.2.1, V10.1, V10.2.1, fun _ => rfl, fun _ => rfl, V10.2.2.2.2⟩, HW, HX⟩
            · rintro b a wy hb hd ⟨z, z30, z37, z38, rfl, HV, HW, HX⟩ K hK
              clear hd
              go_simp
              have V := HV.out
              have V10 := V.2.2.2.2.2.2.2.2.2.2
              exact hK _ _ ⟨fun s => if s = 6 then .int .i64 0 else z s, _, _, _, rfl, Lib.hid ⟨V.1, V.2.1, V.2.2.1, V.2.2.2.1, V.2.2.2.2.1, V.2.2.2.2.2.1, V.2.2.2.2.2.2.1, V.2.2.2.2.2.2.2.1, V.2.2.2.2.2.2.2.2.1, V.2.2.2.2.2.2.2.2.2.1, V10.1, V10.2.1, V10.2.2.1, V10.2.2.2.1, fun _ => rfl⟩, HW, HX⟩
          case doneD =>
            rintro b a w9 hb ⟨z, z30, z37, z38, rfl, HV, HW, HX⟩
            have e0 := (HV.out.1) (hb 0)
            have e1 := (HV.out.2.1) (hb 1)
            have e3 := (HV.out.2.2.1) (hb 3)
            have e4 := (HV.out.2.2.2.1) (hb 4)
            have e5 := (HV.out.2.2.2.2.1) (hb 5)
            have e6 := (HV.out.2.2.2.2.2.1) (hb 6)
            have e7 := (HV.out.2.2.2.2.2.2.1) (hb 7)
            have e8 := (HV.out.2.2.2.2.2.2.2.1) (hb 8)
            have e11 := (HV.out.2.2.2.2.2.2.2.2.1) (hb 11)
            have e12 := (HV.out.2.2.2.2.2.2.2.2.2.1) (hb 12)
            have e13 := (HV.out.2.2.2.2.2.2.2.2.2.2.1) (hb 13)
            have e14 := (HV.out.2.2.2.2.2.2.2.2.2.2.2.1) (hb 14)
            have e15 := (HV.out.2.2.2.2.2.2.2.2.2.2.2.2.1) (hb 15)
            have e17 := (HV.out.2.2.2.2.2.2.2.2.2.2.2.2.2.1) (hb 17)
            have e18 := (HV.out.2.2.2.2.2.2.2.2.2.2.2.2.2.2) (hb 18)
            simp only [e0, e1, e3, e4, e5, e6, e7, e8, e11, e12, e13, e14, e15, e17, e18]
            clear HV e0 e1 e3 e4 e5 e6 e7 e8 e11 e12 e13 e14 e15 e17 e18
            obtain ⟨_, _, x3, _, x5⟩ := HX.out
            have H9 := Lib.hid (x3 (hb 10))
            have HR9 := Lib.hid (x5 (hb 16)).2
            have HB9 := Lib.hid (BB3.out.trans (HW.out.mono (by omega)))
            clear x3 x5 HX HW hb
            go_wp2_with fail
            have hq := HQ.out
            subst hq
            exact bodyPost_ret (v := _) (res_node rfl _ rfl HR9.out) rfl ⟨_, rfl, H9.out.mono (by omega), HB9.out⟩
        · clear hl
          go_upto_region 8 with (fail)
          refine Inv2.wp_region_inv (fun b a wy => ∃ (z : Nat → Value) (z30 : Value) (z37 : Value) (z38 : Value), a = ⟨(List.toArray (Value.agg #[Value.bool true, Value.slice A m c, Value.slice (some ⟨bk, o, none⟩) m d] :: Value.int IntKind.u64 ↑k.toNat :: Value.pointer (some ⟨w.heap.size, 0, none⟩) :: undef :: Value.pointer (some ⟨w.heap.size + 1, 0, none⟩) :: (z 5) :: (z 6) :: Value.int IntKind.i64 (q : Int) :: Value.agg #[Value.bool true, Value.slice A m c, Value.slice (some ⟨bk, o, none⟩) m d] :: Value.bool true :: Value.bool false :: undef :: Value.agg #[Value.bool true, Value.slice A m c, Value.slice (some ⟨bk, o, none⟩) m d] :: Value.int IntKind.u64 ↑k.toNat :: Value.int IntKind.i64 (q : Int) :: Value.int IntKind.i64 (q : Int) :: Value.bool (decide ((q : Int) < 0)) :: undef :: Value.pointer (some ⟨w.heap.size, 0, none⟩) :: Value.bool true :: Value.bool false :: Value.bool false :: undef :: undef :: undef :: undef :: Value.bool false :: undef :: (z 28) :: (z 29) :: z30 :: (z 31) :: (z 32) :: (z 33) :: (z 34) :: (z 35) :: (z 36) :: z37 :: z38 :: (z 39) :: (z 40) :: (z 41) :: (z 42) :: (z 43) :: [])), []⟩ ∧ Hid ((b 0 = true → (z 28) = .agg #[.bool true, .slice A m c, .slice (some ⟨bk, o, none⟩) m d]) ∧ (b 1 = true → (z 29) = Value.int IntKind.i64 (q : Int)) ∧ (b 3 = true → (z 31) = .agg #[.bool true, .slice A m c, .slice (some ⟨bk, o, none⟩) m d]) ∧ (b 4 = true → (z 32) = Value.int IntKind.i64 (q : Int)) ∧ (b 5 = true → (z 33) = .int .i64 ((q : Int) + 1)) ∧ (b 6 = true → (z 34) = .pointer (some ⟨w.heap.size, 1, none⟩)) ∧ (b 7 = true → (z 35) = .slice A m c) ∧ (b 8 = true → (z 36) = .int .i64 (m : Int)) ∧ (b 11 = true → (z 39) = .pointer (some ⟨w.heap.size, 2, none⟩)) ∧ (b 12 = true → (z 40) = .slice (some ⟨bk, o, none⟩) m d) ∧ (b 13 = true → (z 41) = Value.int IntKind.i64 (q : Int)) ∧ (b 14 = true → (z 42) = .pointer (some ⟨bk, o + q, none⟩)) ∧ (b 15 = true → (z 43) = .int .u64 (val.toNat : Int)) ∧ (b 17 = true → (z 5) = .int .u64 (val.toNat : Int)) ∧ (b 18 = true → (z 6) = .int .i64 0)) ∧ Hid (Below (w.heap.size + 1) w3 wy) ∧ Hid ((b 2 = true → OwnD wy (w.heap.size + 2) z30 true (mids ks 0 q) (mids vs 0 q)) ∧ (b 9 = true → OwnD wy (w.heap.size + 2) z37 true (mids ks (q + 1) m) (mids vs (q + 1) m)) ∧ (b 10 = true → OwnD wy (w.heap.size + 2) z38 true (mids ks 0 q ++ mids ks (q + 1) m) (mids vs 0 q ++ mids vs (q + 1) m)) ∧ (b 16 = false → BoxD wy (w.heap.size + 1) zeroD) ∧ (b 16 = true → b 10 = true ∧ BoxD wy (w.heap.size + 1) z38))) (by kernel_rfl) (by kernel_rfl) ?startE ?stepsE ?doneE
          case startE =>
            intro b hb
            refine ⟨fun s => if s = 5 then Value.int IntKind.u64 0 else if s = 6 then Value.int IntKind.i64 0 else undef, undef, undef, undef, rfl, Lib.hid ⟨?_, ?_, ?_, ?_, ?_, ?_, ?_, ?_, ?_, ?_, ?_, ?_, ?_, ?_, ?_⟩, Lib.hid ((show Still w3 w3.drew from ⟨rfl, rfl, rfl, rfl⟩).below _), Lib.hid (⟨(fun e => by rw [hb _ (by decide)] at e; cases e), (fun e => by rw [hb _ (by decide)] at e; cases e), (fun e => by rw [hb _ (by decide)] at e; cases e), fun _ => HR3.out, (fun e => by rw [hb _ (by decide)] at e; cases e)⟩)⟩
            all_goals (intro e; first | rfl | (rw [hb _ (by decide)] at e; cases e))
          case stepsE =>
            refine ⟨?_, ?_, ?_, ?_, ?_, ?_, ?_, ?_, ?_, ?_, ?_, ?_, ?_, ?_, ?_, ?_, ?_, ?_, ?_, trivial⟩
            · rintro b a wy hb hd ⟨z, z30, z37, z38, rfl, HV, HW, HX⟩ K hK
              clear hd
              have hbx := HBX3.out.below (by omega) HW.out
              refine if_wanted (by rfl) (wp_load_d (.tmp 2) rfl w.heap.size _ rfl (row_d hbx) ?_)
              have V := HV.out
              have V10 := V.2.2.2.2.2.2.2.2.2.2
              exact hK _ _ ⟨fun s => if s = 28 then .agg #[.bool true, .slice A m c, .slice (some ⟨bk, o, none⟩) m d] else z s, _, _, _, rfl, Lib.hid ⟨fun _ => rfl, V.2.1, V.2.2.1, V.2.2.2.1, V.2.2.2.2.1, V.2.2.2.2.2.1, V.2.2.2.2.2.2.1, V.2.2.2.2.2.2.2.1, V.2.2.2.2.2.2.2.2.1, V.2.2.2.2.2.2.2.2.2.1, V10.1, V10.2.1, V10.2.2.1, V10.2.2.2.1, V10.2.2.2.2⟩, HW, HX⟩
            · rintro b a wy hb hd ⟨z, z30, z37, z38, rfl, HV, HW, HX⟩ K hK
              clear hd
              go_simp
              have V := HV.out
              have V10 := V.2.2.2.2.2.2.2.2.2.2
              exact hK _ _ ⟨fun s => if s = 29 then Value.int IntKind.i64 (q : Int) else z s, _, _, _, rfl, Lib.hid ⟨V.1, fun _ => rfl, V.2.2.1, V.2.2.2.1, V.2.2.2.2.1, V.2.2.2.2.2.1, V.2.2.2.2.2.2.1, V.2.2.2.2.2.2.2.1, V.2.2.2.2.2.2.2.2.1, V.2.2.2.2.2.2.2.2.2.1, V10.1, V10.2.1, V10.2.2.1, V10.2.2.2.1, V10.2.2.2.2⟩, HW, HX⟩
            · rintro b a wy hb hd ⟨z, z30, z37, z38, rfl, HV, HW, HX⟩ K hK
              simp [Region.binds] at hd
              have e0 : (z 28) = .agg #[.bool true, .slice A m c, .slice (some ⟨bk, o, none⟩) m d] := (HV.out.1) (by simp [hd])
              have e1 : (z 29) = Value.int IntKind.i64 (q : Int) := (HV.out.2.1) (by simp [hd])
              clear hd
              obtain ⟨x1, x2, x3, x4, x5⟩ := HX.out
              have hsz9 : w.heap.size + 2 ≤ wy.heap.size := by have := HW.out.size; omega
              have HNy := Lib.hid (HN0.out.below (BB3.out.trans (HW.out.mono (by omega))))
              have C1 := part_any true HNy.out 0 q (Nat.zero_le _) (by omega) (by omega)
              go_simp
              go_at_call 36
              refine (C1).mono ?_
              rintro e wz ⟨v, rfl, ow, kz⟩
              try go_simp
              have V := HV.out
              have V10 := V.2.2.2.2.2.2.2.2.2.2
              exact hK _ _ ⟨fun s => if s = 28 then .agg #[.bool true, .slice A m c, .slice (some ⟨bk, o, none⟩) m d] else if s = 29 then Value.int IntKind.i64 (q : Int) else z s, _, _, _, rfl, Lib.hid ⟨fun _ => rfl, fun _ => rfl, V.2.2.1, V.2.2.2.1, V.2.2.2.2.1, V.2.2.2.2.2.1, V.2.2.2.2.2.2.1, V.2.2.2.2.2.2.2.1, V.2.2.2.2.2.2.2.2.1, V.2.2.2.2.2.2.2.2.2.1, V10.1, V10.2.1, V10.2.2.1, V10.2.2.2.1, V10.2.2.2.2⟩, Lib.hid (HW.out.trans (kz.mono (by omega))), Lib.hid ⟨fun _ => ow.d.mono hsz9, fun e => (x2 e).at kz, fun e => (x3 e).at kz, fun e => (x4 e).below (by omega) kz, fun e => ⟨(x5 e).1, (x5 e).2.below (by omega) kz⟩⟩⟩
            · rintro b a wy hb hd ⟨z, z30, z37, z38, rfl, HV, HW, HX⟩ K hK
              clear hd
              have hbx := HBX3.out.below (by omega) HW.out
              refine if_wanted (by rfl) (wp_load_d (.tmp 2) rfl w.heap.size _ rfl (row_d hbx) ?_)
              have V := HV.out
              have V10 := V.2.2.2.2.2.2.2.2.2.2
              exact hK _ _ ⟨fun s => if s = 31 then .agg #[.bool true, .slice A m c, .slice (some ⟨bk, o, none⟩) m d] else z s, _, _, _, rfl, Lib.hid ⟨V.1, V.2.1, fun _ => rfl, V.2.2.2.1, V.2.2.2.2.1, V.2.2.2.2.2.1, V.2.2.2.2.2.2.1, V.2.2.2.2.2.2.2.1, V.2.2.2.2.2.2.2.2.1, V.2.2.2.2.2.2.2.2.2.1, V10.1, V10.2.1, V10.2.2.1, V10.2.2.2.1, V10.2.2.2.2⟩, HW, HX⟩
            · rintro b a wy hb hd ⟨z, z30, z37, z38, rfl, HV, HW, HX⟩ K hK
              clear hd
              go_simp
              have V := HV.out
              have V10 := V.2.2.2.2.2.2.2.2.2.2
              exact hK _ _ ⟨fun s => if s = 32 then Value.int IntKind.i64 (q : Int) else z s, _, _, _, rfl, Lib.hid ⟨V.1, V.2.1, V.2.2.1, fun _ => rfl, V.2.2.2.2.1, V.2.2.2.2.2.1, V.2.2.2.2.2.2.1, V.2.2.2.2.2.2.2.1, V.2.2.2.2.2.2.2.2.1, V.2.2.2.2.2.2.2.2.2.1, V10.1, V10.2.1, V10.2.2.1, V10.2.2.2.1, V10.2.2.2.2⟩, HW, HX⟩
            · rintro b a wy hb hd ⟨z, z30, z37, z38, rfl, HV, HW, HX⟩ K hK
              simp [Region.binds] at hd
              have e4 : (z 32) = Value.int IntKind.i64 (q : Int) := (HV.out.2.2.2.1) (by simp [hd])
              clear hd
              have hwq : IntKind.i64.wrap ((q : Int) + 1) = (q : Int) + 1 := IntWalk.i64_in _ (by omega)
              go_simp
              have V := HV.out
              have V10 := V.2.2.2.2.2.2.2.2.2.2
              exact hK _ _ ⟨fun s => if s = 33 then .int .i64 ((q : Int) + 1) else if s = 32 then Value.int IntKind.i64 (q : Int) else z s, _, _, _, rfl, Lib.hid ⟨V.1, V.2.1, V.2.2.1, fun _ => rfl, fun _ => rfl, V.2.2.2.2.2.1, V.2.2.2.2.2.2.1, V.2.2.2.2.2.2.2.1, V.2.2.2.2.2.2.2.2.1, V.2.2.2.2.2.2.2.2.2.1, V10.1, V10.2.1, V10.2.2.1, V10.2.2.2.1, V10.2.2.2.2⟩, HW, HX⟩
            · rintro b a wy hb hd ⟨z, z30, z37, z38, rfl, HV, HW, HX⟩ K hK
              clear hd
              go_simp
              have V := HV.out
              have V10 := V.2.2.2.2.2.2.2.2.2.2
              exact hK _ _ ⟨fun s => if s = 34 then .pointer (some ⟨w.heap.size, 1, none⟩) else z s, _, _, _, rfl, Lib.hid ⟨V.1, V.2.1, V.2.2.1, V.2.2.2.1, V.2.2.2.2.1, fun _ => rfl, V.2.2.2.2.2.2.1, V.2.2.2.2.2.2.2.1, V.2.2.2.2.2.2.2.2.1, V.2.2.2.2.2.2.2.2.2.1, V10.1, V10.2.1, V10.2.2.1, V10.2.2.2.1, V10.2.2.2.2⟩, HW, HX⟩
            · rintro b a wy hb hd ⟨z, z30, z37, z38, rfl, HV, HW, HX⟩ K hK
              simp [Region.binds] at hd
              have e6 : (z 34) = .pointer (some ⟨w.heap.size, 1, none⟩) := (HV.out.2.2.2.2.2.1) (by simp [hd])
              clear hd
              have hbx := HBX3.out.below (by omega) HW.out
              have c1 := hbx.cellAt (i := 1) rfl
              clear hbx
              go_simp
              have V := HV.out
              have V10 := V.2.2.2.2.2.2.2.2.2.2
              exact hK _ _ ⟨fun s => if s = 35 then .slice A m c else if s = 34 then .pointer (some ⟨w.heap.size, 1, none⟩) else z s, _, _, _, rfl, Lib.hid ⟨V.1, V.2.1, V.2.2.1, V.2.2.2.1, V.2.2.2.2.1, fun _ => rfl, fun _ => rfl, V.2.2.2.2.2.2.2.1, V.2.2.2.2.2.2.2.2.1, V.2.2.2.2.2.2.2.2.2.1, V10.1, V10.2.1, V10.2.2.1, V10.2.2.2.1, V10.2.2.2.2⟩, HW, HX⟩
            · rintro b a wy hb hd ⟨z, z30, z37, z38, rfl, HV, HW, HX⟩ K hK
              simp [Region.binds] at hd
              have e7 : (z 35) = .slice A m c := (HV.out.2.2.2.2.2.2.1) (by simp [hd])
              clear hd
              go_simp
              have V := HV.out
              have V10 := V.2.2.2.2.2.2.2.2.2.2
              exact hK _ _ ⟨fun s => if s = 36 then .int .i64 (m : Int) else if s = 35 then .slice A m c else z s, _, _, _, rfl, Lib.hid ⟨V.1, V.2.1, V.2.2.1, V.2.2.2.1, V.2.2.2.2.1, V.2.2.2.2.2.1, fun _ => rfl, fun _ => rfl, V.2.2.2.2.2.2.2.2.1, V.2.2.2.2.2.2.2.2.2.1, V10.1, V10.2.1, V10.2.2.1, V10.2.2.2.1, V10.2.2.2.2⟩, HW, HX⟩
            · rintro b a wy hb hd ⟨z, z30, z37, z38, rfl, HV, HW, HX⟩ K hK
              simp [Region.binds] at hd
              have e3 : (z 31) = .agg #[.bool true, .slice A m c, .slice (some ⟨bk, o, none⟩) m d] := (HV.out.2.2.1) (by simp [hd])
              have e5 : (z 33) = .int .i64 ((q : Int) + 1) := (HV.out.2.2.2.2.1) (by simp [hd])
              have e8 : (z 36) = .int .i64 (m : Int) := (HV.out.2.2.2.2.2.2.2.1) (by simp [hd])
              clear hd
              obtain ⟨x1, x2, x3, x4, x5⟩ := HX.out
              have hsz9 : w.heap.size + 2 ≤ wy.heap.size := by have := HW.out.size; omega
              have HNy := Lib.hid (HN0.out.below (BB3.out.trans (HW.out.mono (by omega))))
              have C1 := part_any true HNy.out (q + 1) m (by omega) (Nat.le_refl _) (by omega)
              rw [show (((q + 1 : Nat)) : Int) = (q : Int) + 1 by omega] at C1
              go_simp
              go_at_call 36
              refine (C1).mono ?_
              rintro e wz ⟨v, rfl, ow, kz⟩
              try go_simp
              have V := HV.out
              have V10 := V.2.2.2.2.2.2.2.2.2.2
              exact hK _ _ ⟨fun s => if s = 31 then .agg #[.bool true, .slice A m c, .slice (some ⟨bk, o, none⟩) m d] else if s = 33 then .int .i64 ((q : Int) + 1) else if s = 36 then .int .i64 (m : Int) else z s, _, _, _, rfl, Lib.hid ⟨V.1, V.2.1, fun _ => rfl, V.2.2.2.1, fun _ => rfl, V.2.2.2.2.2.1, V.2.2.2.2.2.2.1, fun _ => rfl, V.2.2.2.2.2.2.2.2.1, V.2.2.2.2.2.2.2.2.2.1, V10.1, V10.2.1, V10.2.2.1, V10.2.2.2.1, V10.2.2.2.2⟩, Lib.hid (HW.out.trans (kz.mono (by omega))), Lib.hid ⟨fun e => (x1 e).at kz, fun _ => ow.d.mono hsz9, fun e => (x3 e).at kz, fun e => (x4 e).below (by omega) kz, fun e => ⟨(x5 e).1, (x5 e).2.below (by omega) kz⟩⟩⟩
            · rintro b a wy hb hd ⟨z, z30, z37, z38, rfl, HV, HW, HX⟩ K hK
              simp [Region.binds] at hd
              have dd2 : b 2 = true := by simp [hd]
              have dd9 : b 9 = true := by simp [hd]
              clear hd
              obtain ⟨x1, x2, x3, x4, x5⟩ := HX.out
              have hsz9 : w.heap.size + 2 ≤ wy.heap.size := by have := HW.out.size; omega
              obtain ⟨A1, k1, B1, d1, e91, n1⟩ := (x1 dd2).ex HLS.out.1 HLS.out.2.1
              obtain ⟨A2, k2, B2, d2, e92, n2⟩ := (x2 dd9).ex HLS.out.2.2.1 HLS.out.2.2.2
              subst e91
              subst e92
              have b16 : b 16 = false := by
                  rcases Bool.eq_false_or_eq_true (b 16) with e | e
                  · exact absurd (hb.symm.trans (x5 e).1) (by decide)
                  · exact e
              have C1 := both_any true true n1 n2 (by omega) (by omega) (by omega)
              go_simp
              go_at_call 35
              refine (C1).mono ?_
              rintro e wz ⟨v, rfl, ow, kz⟩
              try go_simp
              have V := HV.out
              have V10 := V.2.2.2.2.2.2.2.2.2.2
              exact hK _ _ ⟨fun s => z s, _, _, _, rfl, Lib.hid ⟨V.1, V.2.1, V.2.2.1, V.2.2.2.1, V.2.2.2.2.1, V.2.2.2.2.2.1, V.2.2.2.2.2.2.1, V.2.2.2.2.2.2.2.1, V.2.2.2.2.2.2.2.2.1, V.2.2.2.2.2.2.2.2.2.1, V10.1, V10.2.1, V10.2.2.1, V10.2.2.2.1, V10.2.2.2.2⟩, Lib.hid (HW.out.trans (kz.mono (by omega))), Lib.hid ⟨fun e => (x1 e).at kz, fun e => (x2 e).at kz, fun _ => ow.d.mono hsz9, fun e => (x4 e).below (by omega) kz, fun e => absurd (b16.symm.trans e) (by decide)⟩⟩
            · rintro b a wy hb hd ⟨z, z30, z37, z38, rfl, HV, HW, HX⟩ K hK
              clear hd
              go_simp
              have V := HV.out
              have V10 := V.2.2.2.2.2.2.2.2.2.2
              exact hK _ _ ⟨fun s => if s = 39 then .pointer (some ⟨w.heap.size, 2, none⟩) else z s, _, _, _, rfl, Lib.hid ⟨V.1, V.2.1, V.2.2.1, V.2.2.2.1, V.2.2.2.2.1, V.2.2.2.2.2.1, V.2.2.2.2.2.2.1, V.2.2.2.2.2.2.2.1, fun _ => rfl, V.2.2.2.2.2.2.2.2.2.1, V10.1, V10.2.1, V10.2.2.1, V10.2.2.2.1, V10.2.2.2.2⟩, HW, HX⟩
            · rintro b a wy hb hd ⟨z, z30, z37, z38, rfl, HV, HW, HX⟩ K hK
              simp [Region.binds] at hd
              have e11 : (z 39) = .pointer (some ⟨w.heap.size, 2, none⟩) := (HV.out.2.2.2.2.2.2.2.2.1) (by simp [hd])
              clear hd
              have hbx := HBX3.out.below (by omega) HW.out
              have c2 := hbx.cellAt (i := 2) rfl
              clear hbx
              go_simp
              have V := HV.out
              have V10 := V.2.2.2.2.2.2.2.2.2.2
              exact hK _ _ ⟨fun s => if s = 40 then .slice (some ⟨bk, o, none⟩) m d else if s = 39 then .pointer (some ⟨w.heap.size, 2, none⟩) else z s, _, _, _, rfl, Lib.hid ⟨V.1, V.2.1, V.2.2.1, V.2.2.2.1, V.2.2.2.2.1, V.2.2.2.2.2.1, V.2.2.2.2.2.2.1, V.2.2.2.2.2.2.2.1, fun _ => rfl, fun _ => rfl, V10.1, V10.2.1, V10.2.2.1, V10.2.2.2.1, V10.2.2.2.2⟩, HW, HX⟩
            · rintro b a wy hb hd ⟨z, z30, z37, z38, rfl, HV, HW, HX⟩ K hK
              clear hd
              go_simp
              have V := HV.out
              have V10 := V.2.2.2.2.2.2.2.2.2.2
              exact hK _ _ ⟨fun s => if s = 41 then Value.int IntKind.i64 (q : Int) else z s, _, _, _, rfl, Lib.hid ⟨V.1, V.2.1, V.2.2.1, V.2.2.2.1, V.2.2.2.2.1, V.2.2.2.2.2.1, V.2.2.2.2.2.2.1, V.2.2.2.2.2.2.2.1, V.2.2.2.2.2.2.2.2.1, V.2.2.2.2.2.2.2.2.2.1, fun _ => rfl, V10.2.1, V10.2.2.1, V10.2.2.2.1, V10.2.2.2.2⟩, HW, HX⟩
            · rintro b a wy hb hd ⟨z, z30, z37, z38, rfl, HV, HW, HX⟩ K hK
              simp [Region.binds] at hd
              have e12 : (z 40) = .slice (some ⟨bk, o, none⟩) m d := (HV.out.2.2.2.2.2.2.2.2.2.1) (by simp [hd])
              have e13 : (z 41) = Value.int IntKind.i64 (q : Int) := (HV.out.2.2.2.2.2.2.2.2.2.2.1) (by simp [hd])
              clear hd
              go_simp
              have V := HV.out
              have V10 := V.2.2.2.2.2.2.2.2.2.2
              exact hK _ _ ⟨fun s => if s = 42 then .pointer (some ⟨bk, o + q, none⟩) else if s = 40 then .slice (some ⟨bk, o, none⟩) m d else if s = 41 then Value.int IntKind.i64 (q : Int) else z s, _, _, _, rfl, Lib.hid ⟨V.1, V.2.1, V.2.2.1, V.2.2.2.1, V.2.2.2.2.1, V.2.2.2.2.2.1, V.2.2.2.2.2.2.1, V.2.2.2.2.2.2.2.1, V.2.2.2.2.2.2.2.2.1, fun _ => rfl, fun _ => rfl, fun _ => rfl, V10.2.2.1, V10.2.2.2.1, V10.2.2.2.2⟩, HW, HX⟩
            · rintro b a wy hb hd ⟨z, z30, z37, z38, rfl, HV, HW, HX⟩ K hK
              simp [Region.binds] at hd
              have e14 : (z 42) = .pointer (some ⟨bk, o + q, none⟩) := (HV.out.2.2.2.2.2.2.2.2.2.2.2.1) (by simp [hd])
              clear hd
              have cv := ((BB3.out.trans (HW.out.mono (by omega))).cell (p := ⟨bk, o + q, none⟩) hbl).trans HVAL.out
              go_simp
              have V := HV.out
              have V10 := V.2.2.2.2.2.2.2.2.2.2
              exact hK _ _ ⟨fun s => if s = 43 then .int .u64 (val.toNat : Int) else if s = 42 then .pointer (some ⟨bk, o + q, none⟩) else z s, _, _, _, rfl, Lib.hid ⟨V.1, V.2.1, V.2.2.1, V.2.2.2.1, V.2.2.2.2.1, V.2.2.2.2.2.1, V.2.2.2.2.2.2.1, V.2.2.2.2.2.2.2.1, V.2.2.2.2.2.2.2.2.1, V.2.2.2.2.2.2.2.2.2.1, V10.1, fun _ => rfl, fun _ => rfl, V10.2.2.2.1, V10.2.2.2.2⟩, HW, HX⟩
            · rintro b a wy hb hd ⟨z, z30, z37, z38, rfl, HV, HW, HX⟩ K hK
              simp [Region.binds] at hd
              have dd10 : b 10 = true := by simp [hd]
              clear hd
              obtain ⟨x1, x2, x3, x4, x5⟩ := HX.out
              have hr := x4 hb
              refine if_wanted (by rfl) (wp_store_d (.tmp 4) (.tmp 38) rfl (w.heap.size + 1) (w.heap.size + 2) z38 _ true (mids ks 0 q ++ mids ks (q + 1) m) (mids vs 0 q ++ mids vs (q + 1) m) rfl rfl hr (x3 dd10) (fun cs HC => ?_))
              have V := HV.out
              have V10 := V.2.2.2.2.2.2.2.2.2.2
              exact hK _ _ ⟨fun s => z s, _, _, _, rfl, Lib.hid ⟨V.1, V.2.1, V.2.2.1, V.2.2.2.1, V.2.2.2.2.1, V.2.2.2.2.2.1, V.2.2.2.2.2.2.1, V.2.2.2.2.2.2.2.1, V.2.2.2.2.2.2.2.2.1, V.2.2.2.2.2.2.2.2.2.1, V10.1, V10.2.1, V10.2.2.1, V10.2.2.2.1, V10.2.2.2.2⟩, Lib.hid (HW.out.trans (row_below _ (by omega))), Lib.hid ⟨fun e => (x1 e).row _ (by omega), fun e => (x2 e).row _ (by omega), fun e => (x3 e).row _ (by omega), fun e => (by cases e), fun _ => ⟨dd10, HC⟩⟩⟩
            · rintro b a wy hb hd ⟨z, z30, z37, z38, rfl, HV, HW, HX⟩ K hK
              simp [Region.binds] at hd
              have e15 : (z 43) = .int .u64 (val.toNat : Int) := (HV.out.2.2.2.2.2.2.2.2.2.2.2.2.1) (by simp [hd])
              clear hd
              go_simp
              have V := HV.out
              have V10 := V.2.2.2.2.2.2.2.2.2.2
              exact hK _ _ ⟨fun s => if s = 5 then .int .u64 (val.toNat : Int) else if s = 43 then .int .u64 (val.toNat : Int) else z s, _, _, _, rfl, Lib.hid ⟨V.1, V.2.1, V.2.2.1, V.2.2.2.1, V.2.2.2.2.1, V.2.2.2.2.2.1, V.2.2.2.2.2.2.1, V.2.2.2.2.2.2.2.1, V.2.2.2.2.2.2.2.2.1, V.2.2.2.2.2.2.2.2.2.1, V10.1, V10.2.1, fun _ => rfl, fun _ => rfl, V10.2.2.2.2⟩, HW, HX⟩
            · rintro b a wy hb hd ⟨z, z30, z37, z38, rfl, HV, HW, HX⟩ K hK
              clear hd
              go_simp
              have V := HV.out
              have V10 := V.2.2.2.2.2.2.2.2.2.2
              exact hK _ _ ⟨fun s => if s = 6 then .int .i64 0 else z s, _, _, _, rfl, Lib.hid ⟨V.1, V.2.1, V.2.2.1, V.2.2.2.1, V.2.2.2.2.1, V.2.2.2.2.2.1, V.2.2.2.2.2.2.1, V.2.2.2.2.2.2.2.1, V.2.2.2.2.2.2.2.2.1, V.2.2.2.2.2.2.2.2.2.1, V10.1, V10.2.1, V10.2.2.1, V10.2.2.2.1, fun _ => rfl⟩, HW, HX⟩
          case doneE =>
            rintro b a w9 hb ⟨z, z30, z37, z38, rfl, HV, HW, HX⟩
            have e0 := (HV.out.1) (hb 0)
            have e1 := (HV.out.2.1) (hb 1)
            have e3 := (HV.out.2.2.1) (hb 3)
            have e4 := (HV.out.2.2.2.1) (hb 4)
            have e5 := (HV.out.2.2.2.2.1) (hb 5)
            have e6 := (HV.out.2.2.2.2.2.1) (hb 6)
            have e7 := (HV.out.2.2.2.2.2.2.1) (hb 7)
            have e8 := (HV.out.2.2.2.2.2.2.2.1) (hb 8)
            have e11 := (HV.out.2.2.2.2.2.2.2.2.1) (hb 11)
            have e12 := (HV.out.2.2.2.2.2.2.2.2.2.1) (hb 12)
            have e13 := (HV.out.2.2.2.2.2.2.2.2.2.2.1) (hb 13)
            have e14 := (HV.out.2.2.2.2.2.2.2.2.2.2.2.1) (hb 14)
            have e15 := (HV.out.2.2.2.2.2.2.2.2.2.2.2.2.1) (hb 15)
            have e17 := (HV.out.2.2.2.2.2.2.2.2.2.2.2.2.2.1) (hb 17)
            have e18 := (HV.out.2.2.2.2.2.2.2.2.2.2.2.2.2.2) (hb 18)
            simp only [e0, e1, e3, e4, e5, e6, e7, e8, e11, e12, e13, e14, e15, e17, e18]
            clear HV e0 e1 e3 e4 e5 e6 e7 e8 e11 e12 e13 e14 e15 e17 e18
            obtain ⟨_, _, x3, _, x5⟩ := HX.out
            have H9 := Lib.hid (x3 (hb 10))
            have HR9 := Lib.hid (x5 (hb 16)).2
            have HB9 := Lib.hid (BB3.out.trans (HW.out.mono (by omega)))
            clear x3 x5 HX HW hb
            go_wp2_with fail
            have hq := HQ.out
            subst hq
            exact bodyPost_ret (v := _) (res_node rfl _ rfl HR9.out) rfl ⟨_, rfl, H9.out.mono (by omega), HB9.out⟩
    · have hpl : plR ks k = -1 := if_neg hk
      rw [hpl]
      clear hpl
      have E2 := E.out
      rw [if_neg hk] at E2
      subst E2
      go_wp2_with (first | (refine wpList_build_as rfl 24 #[] rfl #[.bool false, .slice none 0 0, .slice none 0 0] (by simp [Act.eval]; exact node_bare) ?_) | (refine wpList_store_d rfl (.tmp 4) (.tmp 17) rfl (w.heap.size + 1) 0 zeroD _ false [] [] rfl rfl HR3.out (own_zero _ _) ?_; intro cs HC))
      exact bodyPost_ret (v := _) (res_node rfl _ rfl HC) rfl ⟨_, rfl, own_zero _ _, BB3.out.trans (row_below cs (by omega))⟩
  · rw [decide_eq_false hok]
    obtain rfl : t = (zn, 0, 30) := by rw [HT.out]; unfold takeR; rw [if_neg hok]
    go_wp2_with (first | (refine wpList_build_as rfl 24 #[] rfl #[.bool false, .slice none 0 0, .slice none 0 0] (by simp [Act.eval]; exact node_bare) ?_) | (refine wpList_store_d rfl (.tmp 4) (.tmp 11) rfl (w.heap.size + 1) 0 zeroD _ false [] [] rfl rfl HR2.out (own_zero _ _) ?_; intro cs HC))
    exact bodyPost_ret (v := _) (res_node rfl _ rfl HC) rfl ⟨_, rfl, own_zero _ _, BB2.out.trans (row_below cs (by omega))⟩
end Go.Proofs.Ytllopocekegljaa.No
