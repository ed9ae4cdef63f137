/- Layer 12: the contracts of Take and Split. (Written by bin/gen_noi.py.) -/
import Derived.Test.YtllopocekegljaaNoH
namespace Go.Proofs.Ytllopocekegljaa.No
open Go.RowKit Go.Proofs.Ytllopocekegljaa.Oct Go.Proofs.Ytllopocekegljaa.Lf Go.Proofs.Ytllopocekegljaa.Mv
set_option linter.unusedVariables false
set_option linter.unusedSimpArgs false

def takeR (l : Bool) (ks vs : List UInt64) (k : UInt64) : PN × UInt64 × Nat :=
  if Ok l ks vs then (if k ∈ ks then (if l = false ∧ ks.length = 1 then (zn, 0, 122) else ((l, cutIn ks (low ks k) (upto ks k) [], cutIn vs (low ks k) (upto ks k) []), vs.getD (low ks k) 0, 0)) else (zn, 0, 121)) else (zn, 0, 30)
def splitR (l : Bool) (ks vs : List UInt64) : PN × PN × Nat :=
  if Ok l ks vs then (if ks.length < 2 then (zn, zn, 122) else ((l, cutIn ks ((ks.length + 1) / 2) ks.length [], cutIn vs ((ks.length + 1) / 2) ks.length []), (l, cutIn ks 0 ((ks.length + 1) / 2) [], cutIn vs 0 ((ks.length + 1) / 2) []), 0)) else (zn, zn, 30)

set_option maxRecDepth 100000 in
set_option maxHeartbeats 4000000 in
theorem take_any (l : Bool) {w : World} {A B : Option Addr} {n c m d : Nat} {ks vs : List UInt64} (h : Nd w A n c B m d ks vs) (k : UInt64) (t : PN × UInt64 × Nat) (ht : t = takeR l ks vs k) :
    Calls Try.prog 17 #[.agg #[.bool l, .slice A n c, .slice B m d], .int .u64 (k.toNat : Int)] w fun e w' => ∃ v, e = .returned (.tuple #[v, .int .u64 (t.2.1.toNat : Int), .int .i64 (t.2.2 : Nat)]) ∧ OwnD w' w.heap.size v t.1.1 t.1.2.1 t.1.2.2 ∧ Below w.heap.size w w' := by
  have b1 := (Below.refl w.heap.size w).alloc (Nat.le_refl _) (.cells #[.bool l, .slice A n c, .slice B m d] 24)
  have BB := Lib.hid (b1.alloc b1.size (.cells #[.bool false, .slice none 0 0, .slice none 0 0] 24))
  have HBX := Lib.hid ((box_row w l A n c B m d).below (by simp) ((Below.refl _ _).alloc (Nat.le_refl _) (.cells #[.bool false, .slice none 0 0, .slice none 0 0] 24)))
  have HR := Lib.hid (box_d (w.alloc (.cells #[.bool l, .slice A n c, .slice B m d] 24)) (.bool false) (.slice none 0 0) (.slice none 0 0))
  rw [show (w.alloc (.cells #[.bool l, .slice A n c, .slice B m d] 24)).heap.size = w.heap.size + 1 by simp] at HR
  have HN := Lib.hid (h.below BB.out)
  have kl := h.kl
  have HT := Lib.hid ht
  have hz := node_zero
  have hs2 : ((w.alloc (.cells #[.bool l, .slice A n c, .slice B m d] 24)).alloc (.cells #[.bool false, .slice none 0 0, .slice none 0 0] 24)).heap.size = w.heap.size + 2 := by simp
  have HN0 := Lib.hid h
  clear h ht b1
  go_enter Try.func17, Try.ntmps17
  go_wp2_with fail
  generalize (w.alloc (.cells #[.bool l, .slice A n c, .slice B m d] 24)).alloc (.cells #[.bool false, .slice none 0 0, .slice none 0 0] 24) = w1 at *
  refine (right_any l HN.out).mono ?_
  rintro e w2 ⟨rfl, B2⟩
  have BB2 := Lib.hid (BB.out.trans (B2.mono BB.out.size))
  have HBX2 := Lib.hid (HBX.out.below HBX.out.lt B2)
  have HR2 := Lib.hid (HR.out.below HR.out.lt B2)
  have HN2 := Lib.hid (HN.out.below B2)
  have hw2 : w.heap.size + 2 ≤ w2.heap.size := by have := B2.size; omega
  clear B2
  by_cases hok : Ok l ks vs
  · rw [decide_eq_true hok]
    obtain rfl : m = n := by rw [← HN.out.vl, ← kl]; exact hok.2.1
    have h7 := hok.1
    have HK := Lib.hid hok
    have E := Lib.hid (show t = (if k ∈ ks then (if l = false ∧ ks.length = 1 then (zn, 0, 122) else ((l, cutIn ks (low ks k) (upto ks k) [], cutIn vs (low ks k) (upto ks k) []), vs.getD (low ks k) 0, 0)) else (zn, 0, 121)) by rw [HT.out]; unfold takeR; rw [if_pos hok])
    clear hok
    go_wp2_with (first | (refine wpList_load_d rfl (.tmp 2) rfl w.heap.size _ rfl (row_d HBX2.out) ?_))
    refine (span_any l HN2.out HK.out.2.2.1 (by omega) k k).mono ?_
    rintro e w3 ⟨rfl, B3⟩
    have BB3 := Lib.hid (BB2.out.trans (B3.mono BB2.out.size))
    have HBX3 := Lib.hid (HBX2.out.below HBX2.out.lt B3)
    have HR3 := Lib.hid (HR2.out.below HR2.out.lt B3)
    have HN3 := Lib.hid (HN2.out.below B3)
    have hw3 : w.heap.size + 2 ≤ w3.heap.size := by have := B3.size; omega
    clear B3
    rw [Nat.max_eq_right (lowup ks k), decide_eq_decide.2 (lowup_lt ks k)]
    have l1 := low_le ks k
    have l2 := upto_le ks k
    have c0 := HBX3.out.cellAt (i := 0) rfl
    have c1 := HBX3.out.cellAt (i := 1) rfl
    by_cases hk : k ∈ ks
    · rw [decide_eq_true hk]
      by_cases hl : l = false ∧ ks.length = 1
      · obtain ⟨rfl, hl1⟩ := hl
        obtain rfl : m = 1 := by omega
        have E2 := E.out
        rw [if_pos hk, if_pos ⟨rfl, hl1⟩] at E2
        subst E2
        go_wp2_with (first | (refine wpList_build_as rfl 24 #[] rfl #[.bool false, .slice none 0 0, .slice none 0 0] (by simp [Act.eval]; exact node_bare) ?_) | (refine wpList_store_d rfl (.tmp 4) (.tmp 36) rfl (w.heap.size + 1) 0 zeroD _ false [] [] rfl rfl HR3.out (own_zero _ _) ?_; intro cs HC))
        exact bodyPost_ret (v := _) (res_node rfl _ rfl HC) rfl ⟨_, rfl, own_zero _ _, BB3.out.trans (row_below cs (by omega))⟩
      · have E2 := E.out
        rw [if_pos hk, if_neg hl] at E2
        subst E2
        have hlv : low ks k < vs.length := by rw [HN0.out.vl, ← kl]; exact low_lt hk
        obtain ⟨bk, o, rfl, hH⟩ := HN0.out.vs.has (by omega)
        have HVAL := Lib.hid (hH (low ks k) hlv)
        have hbl := World.block_lt_of_cell? w _ HVAL.out
        have hlm : low ks k < m := by rw [← HN0.out.vl]; exact hlv
        have hlmi : ((low ks k : Nat) : Int) < (m : Int) := by omega
        clear hH
        obtain ⟨val, hval⟩ : ∃ v, v = vs[low ks k] := ⟨_, rfl⟩
        rw [← hval] at HVAL
        have HG := Lib.hid hval
        clear hval
        cases l
        · have hm1 : ((m : Int) == 1) = false := by
            rw [beq_eq_false_iff_ne]
            exact fun e => hl ⟨rfl, by omega⟩
          clear hl
          go_upto_region 8 with (fail)
          refine Inv2.wp_region_inv (fun b a wy => ∃ (z : Nat → Value) (z40 : Value), a = ⟨(List.toArray (Value.agg #[Value.bool false, Value.slice A m c, Value.slice (some ⟨bk, o, none⟩) m d] :: Value.int IntKind.u64 ↑k.toNat :: Value.pointer (some ⟨w.heap.size, 0, none⟩) :: undef :: Value.pointer (some ⟨w.heap.size + 1, 0, none⟩) :: (z 5) :: (z 6) :: Value.int IntKind.i64 ↑(low ks k) :: Value.int IntKind.i64 ↑(upto ks k) :: Value.bool true :: Value.agg #[Value.bool false, Value.slice A m c, Value.slice (some ⟨bk, o, none⟩) m d] :: Value.bool true :: Value.bool false :: undef :: Value.tuple #[Value.int IntKind.i64 ↑(low ks k), Value.int IntKind.i64 ↑(upto ks k), Value.bool true] :: Value.agg #[Value.bool false, Value.slice A m c, Value.slice (some ⟨bk, o, none⟩) m d] :: Value.int IntKind.u64 ↑k.toNat :: Value.int IntKind.u64 ↑k.toNat :: Value.tuple #[Value.int IntKind.i64 ↑(low ks k), Value.int IntKind.i64 ↑(upto ks k), Value.bool true] :: Value.int IntKind.i64 ↑(low ks k) :: Value.int IntKind.i64 ↑(upto ks k) :: Value.bool true :: Value.bool false :: Value.bool true :: Value.bool false :: undef :: Value.bool false :: Value.pointer (some ⟨w.heap.size, 0, none⟩) :: Value.bool false :: Value.bool true :: Value.bool true :: Value.pointer (some ⟨w.heap.size, 1, none⟩) :: Value.slice A m c :: Value.int IntKind.i64 (m : Int) :: Value.bool false :: Value.bool false :: undef :: (z 37) :: (z 38) :: (z 39) :: z40 :: (z 41) :: (z 42) :: (z 43) :: (z 44) :: (z 45) :: [])), []⟩ ∧ Hid ((b 0 = true → (z 37) = .agg #[.bool false, .slice A m c, .slice (some ⟨bk, o, none⟩) m d]) ∧ (b 1 = true → (z 38) = Value.int IntKind.i64 ↑(low ks k)) ∧ (b 2 = true → (z 39) = Value.int IntKind.i64 ↑(upto ks k)) ∧ (b 4 = true → (z 41) = .pointer (some ⟨w.heap.size, 2, none⟩)) ∧ (b 5 = true → (z 42) = .slice (some ⟨bk, o, none⟩) m d) ∧ (b 6 = true → (z 43) = Value.int IntKind.i64 ↑(low ks k)) ∧ (b 7 = true → (z 44) = .pointer (some ⟨bk, o + low ks k, none⟩)) ∧ (b 8 = true → (z 45) = .int .u64 (val.toNat : Int)) ∧ (b 10 = true → (z 5) = .int .u64 (val.toNat : Int)) ∧ (b 11 = true → (z 6) = .int .i64 0)) ∧ Hid (Below (w.heap.size + 1) w3 wy) ∧ Hid ((b 3 = true → OwnD wy (w.heap.size + 2) z40 false (cutIn ks (low ks k) (upto ks k) []) (cutIn vs (low ks k) (upto ks k) [])) ∧ (b 9 = false → BoxD wy (w.heap.size + 1) zeroD) ∧ (b 9 = true → b 3 = true ∧ BoxD wy (w.heap.size + 1) z40))) (by kernel_rfl) (by kernel_rfl) ?startD ?stepsD ?doneD
          case startD =>
            intro b hb
            refine ⟨fun s => if s = 5 then Value.int IntKind.u64 0 else if s = 6 then Value.int IntKind.i64 0 else undef, undef, rfl, Lib.hid ⟨?_, ?_, ?_, ?_, ?_, ?_, ?_, ?_, ?_, ?_⟩, Lib.hid ((show Still w3 w3.drew from ⟨rfl, rfl, rfl, rfl⟩).below _), Lib.hid (⟨(fun e => by rw [hb _ (by decide)] at e; cases e), fun _ => HR3.out, (fun e => by rw [hb _ (by decide)] at e; cases e)⟩)⟩
            all_goals (intro e; first | rfl | (rw [hb _ (by decide)] at e; cases e))
          case stepsD =>
            refine ⟨?_, ?_, ?_, ?_, ?_, ?_, ?_, ?_, ?_, ?_, ?_, ?_, trivial⟩
            · rintro b a wy hb hd ⟨z, z40, rfl, HV, HW, HX⟩ K hK
              clear hd
              have hbx := HBX3.out.below (by omega) HW.out
              refine if_wanted (by rfl) (wp_load_d (.tmp 2) rfl w.heap.size _ rfl (row_d hbx) ?_)
              have V := HV.out
              exact hK _ _ ⟨fun s => if s = 37 then .agg #[.bool false, .slice A m c, .slice (some ⟨bk, o, none⟩) m d] else z s, _, rfl, Lib.hid ⟨fun _ => rfl, V.2.1, V.2.2.1, V.2.2.2.1, V.2.2.2.2.1, V.2.2.2.2.2.1, V.2.2.2.2.2.2.1, V.2.2.2.2.2.2.2.1, V.2.2.2.2.2.2.2.2.1, V.2.2.2.2.2.2.2.2.2⟩, HW, HX⟩
            · rintro b a wy hb hd ⟨z, z40, rfl, HV, HW, HX⟩ K hK
              clear hd
              go_simp
              have V := HV.out
              exact hK _ _ ⟨fun s => if s = 38 then Value.int IntKind.i64 ↑(low ks k) else z s, _, rfl, Lib.hid ⟨V.1, fun _ => rfl, V.2.2.1, V.2.2.2.1, V.2.2.2.2.1, V.2.2.2.2.2.1, V.2.2.2.2.2.2.1, V.2.2.2.2.2.2.2.1, V.2.2.2.2.2.2.2.2.1, V.2.2.2.2.2.2.2.2.2⟩, HW, HX⟩
            · rintro b a wy hb hd ⟨z, z40, rfl, HV, HW, HX⟩ K hK
              clear hd
              go_simp
              have V := HV.out
              exact hK _ _ ⟨fun s => if s = 39 then Value.int IntKind.i64 ↑(upto ks k) else z s, _, rfl, Lib.hid ⟨V.1, V.2.1, fun _ => rfl, V.2.2.2.1, V.2.2.2.2.1, V.2.2.2.2.2.1, V.2.2.2.2.2.2.1, V.2.2.2.2.2.2.2.1, V.2.2.2.2.2.2.2.2.1, V.2.2.2.2.2.2.2.2.2⟩, HW, HX⟩
            · rintro b a wy hb hd ⟨z, z40, rfl, HV, HW, HX⟩ K hK
              simp [Region.binds] at hd
              have e0 : (z 37) = .agg #[.bool false, .slice A m c, .slice (some ⟨bk, o, none⟩) m d] := (HV.out.1) (by simp [hd])
              have e1 : (z 38) = Value.int IntKind.i64 ↑(low ks k) := (HV.out.2.1) (by simp [hd])
              have e2 : (z 39) = Value.int IntKind.i64 ↑(upto ks k) := (HV.out.2.2.1) (by simp [hd])
              clear hd
              obtain ⟨x1, x2, x3⟩ := HX.out
              have hsz9 : w.heap.size + 2 ≤ wy.heap.size := by have := HW.out.size; omega
              have HNy := Lib.hid (HN0.out.below (BB3.out.trans (HW.out.mono (by omega))))
              have b9 : b 9 = false := by
                  rcases Bool.eq_false_or_eq_true (b 9) with e | e
                  · exact absurd (hb.symm.trans (x3 e).1) (by decide)
                  · exact e
              have C1 := without_any false HNy.out (low ks k) (upto ks k) (by omega) (by omega) (by omega)
              go_simp
              go_at_call 37
              refine (C1).mono ?_
              rintro e wz ⟨v, rfl, ow, kz⟩
              try go_simp
              have V := HV.out
              exact hK _ _ ⟨fun s => if s = 37 then .agg #[.bool false, .slice A m c, .slice (some ⟨bk, o, none⟩) m d] else if s = 38 then Value.int IntKind.i64 ↑(low ks k) else if s = 39 then Value.int IntKind.i64 ↑(upto ks k) else z s, _, rfl, Lib.hid ⟨fun _ => rfl, fun _ => rfl, fun _ => rfl, V.2.2.2.1, V.2.2.2.2.1, V.2.2.2.2.2.1, V.2.2.2.2.2.2.1, V.2.2.2.2.2.2.2.1, V.2.2.2.2.2.2.2.2.1, V.2.2.2.2.2.2.2.2.2⟩, Lib.hid (HW.out.trans (kz.mono (by omega))), Lib.hid ⟨fun _ => ow.mono hsz9, fun e => (x2 e).below (by omega) kz, fun e => absurd (b9.symm.trans e) (by decide)⟩⟩
            · rintro b a wy hb hd ⟨z, z40, rfl, HV, HW, HX⟩ K hK
              clear hd
              go_simp
              have V := HV.out
              exact hK _ _ ⟨fun s => if s = 41 then .pointer (some ⟨w.heap.size, 2, none⟩) else z s, _, rfl, Lib.hid ⟨V.1, V.2.1, V.2.2.1, fun _ => rfl, V.2.2.2.2.1, V.2.2.2.2.2.1, V.2.2.2.2.2.2.1, V.2.2.2.2.2.2.2.1, V.2.2.2.2.2.2.2.2.1, V.2.2.2.2.2.2.2.2.2⟩, HW, HX⟩
            · rintro b a wy hb hd ⟨z, z40, rfl, HV, HW, HX⟩ K hK
              simp [Region.binds] at hd
              have e4 : (z 41) = .pointer (some ⟨w.heap.size, 2, none⟩) := (HV.out.2.2.2.1) (by simp [hd])
              clear hd
              have hbx := HBX3.out.below (by omega) HW.out
              have c2 := hbx.cellAt (i := 2) rfl
              clear hbx
              go_simp
              have V := HV.out
              exact hK _ _ ⟨fun s => if s = 42 then .slice (some ⟨bk, o, none⟩) m d else if s = 41 then .pointer (some ⟨w.heap.size, 2, none⟩) else z s, _, rfl, Lib.hid ⟨V.1, V.2.1, V.2.2.1, fun _ => rfl, fun _ => rfl, V.2.2.2.2.2.1, V.2.2.2.2.2.2.1, V.2.2.2.2.2.2.2.1, V.2.2.2.2.2.2.2.2.1, V.2.2.2.2.2.2.2.2.2⟩, HW, HX⟩
            · rintro b a wy hb hd ⟨z, z40, rfl, HV, HW, HX⟩ K hK
              clear hd
              go_simp
              have V := HV.out
              exact hK _ _ ⟨fun s => if s = 43 then Value.int IntKind.i64 ↑(low ks k) else z s, _, rfl, Lib.hid ⟨V.1, V.2.1, V.2.2.1, V.2.2.2.1, V.2.2.2.2.1, fun _ => rfl, V.2.2.2.2.2.2.1, V.2.2.2.2.2.2.2.1, V.2.2.2.2.2.2.2.2.1, V.2.2.2.2.2.2.2.2.2⟩, HW, HX⟩
            · rintro b a wy hb hd ⟨z, z40, rfl, HV, HW, HX⟩ K hK
              simp [Region.binds] at hd
              have e5 : (z 42) = .slice (some ⟨bk, o, none⟩) m d := (HV.out.2.2.2.2.1) (by simp [hd])
              have e6 : (z 43) = Value.int IntKind.i64 ↑(low ks k) := (HV.out.2.2.2.2.2.1) (by simp [hd])
              clear hd
              go_simp
              have V := HV.out
              exact hK _ _ ⟨fun s => if s = 44 then .pointer (some ⟨bk, o + low ks k, none⟩) else if s = 42 then .slice (some ⟨bk, o, none⟩) m d else if s = 43 then Value.int IntKind.i64 ↑(low ks k) else z s, _, rfl, Lib.hid ⟨V.1, V.2.1, V.2.2.1, V.2.2.2.1, fun _ => rfl, fun _ => rfl, fun _ => rfl, V.2.2.2.2.2.2.2.1, V.2.2.2.2.2.2.2.2.1, V.2.2.2.2.2.2.2.2.2⟩, HW, HX⟩
            · rintro b a wy hb hd ⟨z, z40, rfl, HV, HW, HX⟩ K hK
              simp [Region.binds] at hd
              have e7 : (z 44) = .pointer (some ⟨bk, o + low ks k, none⟩) := (HV.out.2.2.2.2.2.2.1) (by simp [hd])
              clear hd
              have cv := ((BB3.out.trans (HW.out.mono (by omega))).cell (p := ⟨bk, o + low ks k, none⟩) hbl).trans HVAL.out
              go_simp
              have V := HV.out
              exact hK _ _ ⟨fun s => if s = 45 then .int .u64 (val.toNat : Int) else if s = 44 then .pointer (some ⟨bk, o + low ks k, none⟩) else z s, _, rfl, Lib.hid ⟨V.1, V.2.1, V.2.2.1, V.2.2.2.1, V.2.2.2.2.1, V.2.2.2.2.2.1, fun _ => rfl, fun _ => rfl, V.2.2.2.2.2.2.2.2.1, V.2.2.2.2.2.2.2.2.2⟩, HW, HX⟩
            · rintro b a wy hb hd ⟨z, z40, rfl, HV, HW, HX⟩ K hK
              simp [Region.binds] at hd
              have dd3 : b 3 = true := by simp [hd]
              clear hd
              obtain ⟨x1, x2, x3⟩ := HX.out
              have hr := x2 hb
              refine if_wanted (by rfl) (wp_store_d (.tmp 4) (.tmp 40) rfl (w.heap.size + 1) (w.heap.size + 2) z40 _ false (cutIn ks (low ks k) (upto ks k) []) (cutIn vs (low ks k) (upto ks k) []) rfl rfl hr (x1 dd3) (fun cs HC => ?_))
              have V := HV.out
              exact hK _ _ ⟨fun s => z s, _, rfl, Lib.hid ⟨V.1, V.2.1, V.2.2.1, V.2.2.2.1, V.2.2.2.2.1, V.2.2.2.2.2.1, V.2.2.2.2.2.2.1, V.2.2.2.2.2.2.2.1, V.2.2.2.2.2.2.2.2.1, V.2.2.2.2.2.2.2.2.2⟩, Lib.hid (HW.out.trans (row_below _ (by omega))), Lib.hid ⟨fun e => (x1 e).row _ (by omega), fun e => (by cases e), fun _ => ⟨dd3, HC⟩⟩⟩
            · rintro b a wy hb hd ⟨z, z40, rfl, HV, HW, HX⟩ K hK
              simp [Region.binds] at hd
              have e8 : (z 45) = .int .u64 (val.toNat : Int) := (HV.out.2.2.2.2.2.2.2.1) (by simp [hd])
              clear hd
              go_simp
              have V := HV.out
              exact hK _ _ ⟨fun s => if s = 5 then .int .u64 (val.toNat : Int) else if s = 45 then .int .u64 (val.toNat : Int) else z s, _, rfl, Lib.hid ⟨V.1, V.2.1, V.2.2.1, V.2.2.2.1, V.2.2.2.2.1, V.2.2.2.2.2.1, V.2.2.2.2.2.2.1, fun _ => rfl, fun _ => rfl, V.2.2.2.2.2.2.2.2.2⟩, HW, HX⟩
            · rintro b a wy hb hd ⟨z, z40, rfl, HV, HW, HX⟩ K hK
              clear hd
              go_simp
              have V := HV.out
              exact hK _ _ ⟨fun s => if s = 6 then .int .i64 0 else z s, _, rfl, Lib.hid ⟨V.1, V.2.1, V.2.2.1, V.2.2.2.1, V.2.2.2.2.1, V.2.2.2.2.2.1, V.2.2.2.2.2.2.1, V.2.2.2.2.2.2.2.1, V.2.2.2.2.2.2.2.2.1, fun _ => rfl⟩, HW, HX⟩
          case doneD =>
            rintro b a w9 hb ⟨z, z40, rfl, HV, HW, HX⟩
            have e0 := (HV.out.1) (hb 0)
            have e1 := (HV.out.2.1) (hb 1)
            have e2 := (HV.out.2.2.1) (hb 2)
            have e4 := (HV.out.2.2.2.1) (hb 4)
            have e5 := (HV.out.2.2.2.2.1) (hb 5)
            have e6 := (HV.out.2.2.2.2.2.1) (hb 6)
            have e7 := (HV.out.2.2.2.2.2.2.1) (hb 7)
            have e8 := (HV.out.2.2.2.2.2.2.2.1) (hb 8)
            have e10 := (HV.out.2.2.2.2.2.2.2.2.1) (hb 10)
            have e11 := (HV.out.2.2.2.2.2.2.2.2.2) (hb 11)
            simp only [e0, e1, e2, e4, e5, e6, e7, e8, e10, e11]
            clear HV e0 e1 e2 e4 e5 e6 e7 e8 e10 e11
            obtain ⟨x1, _, x3⟩ := HX.out
            have H9 := Lib.hid (x1 (hb 3))
            have HR9 := Lib.hid (x3 (hb 9)).2
            have HB9 := Lib.hid (BB3.out.trans (HW.out.mono (by omega)))
            clear x1 x3 HX HW hb
            go_wp2_with fail
            refine bodyPost_ret (v := _) (res_node rfl _ rfl HR9.out) rfl ⟨_, ?_, H9.out.mono (by omega), HB9.out⟩
            first
            | rfl
            | (rw [← HG.out]; rfl)
            | (simp only [List.getD_eq_getElem?_getD, List.getElem?_eq_getElem hlv, Option.getD_some, ← HG.out]; rfl)
        · clear hl
          go_upto_region 8 with (fail)
          refine Inv2.wp_region_inv (fun b a wy => ∃ (z : Nat → Value) (z40 : Value), a = ⟨(List.toArray (Value.agg #[Value.bool true, Value.slice A m c, Value.slice (some ⟨bk, o, none⟩) m d] :: Value.int IntKind.u64 ↑k.toNat :: Value.pointer (some ⟨w.heap.size, 0, none⟩) :: undef :: Value.pointer (some ⟨w.heap.size + 1, 0, none⟩) :: (z 5) :: (z 6) :: Value.int IntKind.i64 ↑(low ks k) :: Value.int IntKind.i64 ↑(upto ks k) :: Value.bool true :: Value.agg #[Value.bool true, Value.slice A m c, Value.slice (some ⟨bk, o, none⟩) m d] :: Value.bool true :: Value.bool false :: undef :: Value.tuple #[Value.int IntKind.i64 ↑(low ks k), Value.int IntKind.i64 ↑(upto ks k), Value.bool true] :: Value.agg #[Value.bool true, Value.slice A m c, Value.slice (some ⟨bk, o, none⟩) m d] :: Value.int IntKind.u64 ↑k.toNat :: Value.int IntKind.u64 ↑k.toNat :: Value.tuple #[Value.int IntKind.i64 ↑(low ks k), Value.int IntKind.i64 ↑(upto ks k), Value.bool true] :: Value.int IntKind.i64 ↑(low ks k) :: Value.int IntKind.i64 ↑(upto ks k) :: Value.bool true :: Value.bool false :: Value.bool true :: Value.bool false :: undef :: Value.bool false :: Value.pointer (some ⟨w.heap.size, 0, none⟩) :: Value.bool true :: Value.bool false :: Value.bool false :: undef :: undef :: undef :: undef :: Value.bool false :: undef :: (z 37) :: (z 38) :: (z 39) :: z40 :: (z 41) :: (z 42) :: (z 43) :: (z 44) :: (z 45) :: [])), []⟩ ∧ Hid ((b 0 = true → (z 37) = .agg #[.bool true, .slice A m c, .slice (some ⟨bk, o, none⟩) m d]) ∧ (b 1 = true → (z 38) = Value.int IntKind.i64 ↑(low ks k)) ∧ (b 2 = true → (z 39) = Value.int IntKind.i64 ↑(upto ks k)) ∧ (b 4 = true → (z 41) = .pointer (some ⟨w.heap.size, 2, none⟩)) ∧ (b 5 = true → (z 42) = .slice (some ⟨bk, o, none⟩) m d) ∧ (b 6 = true → (z 43) = Value.int IntKind.i64 ↑(low ks k)) ∧ (b 7 = true → (z 44) = .pointer (some ⟨bk, o + low ks k, none⟩)) ∧ (b 8 = true → (z 45) = .int .u64 (val.toNat : Int)) ∧ (b 10 = true → (z 5) = .int .u64 (val.toNat : Int)) ∧ (b 11 = true → (z 6) = .int .i64 0)) ∧ Hid (Below (w.heap.size + 1) w3 wy) ∧ Hid ((b 3 = true → OwnD wy (w.heap.size + 2) z40 true (cutIn ks (low ks k) (upto ks k) []) (cutIn vs (low ks k) (upto ks k) [])) ∧ (b 9 = false → BoxD wy (w.heap.size + 1) zeroD) ∧ (b 9 = true → b 3 = true ∧ BoxD wy (w.heap.size + 1) z40))) (by kernel_rfl) (by kernel_rfl) ?startE ?stepsE ?doneE
          case startE =>
            intro b hb
            refine ⟨fun s => if s = 5 then Value.int IntKind.u64 0 else if s = 6 then Value.int IntKind.i64 0 else undef, undef, rfl, Lib.hid ⟨?_, ?_, ?_, ?_, ?_, ?_, ?_, ?_, ?_, ?_⟩, Lib.hid ((show Still w3 w3.drew from ⟨rfl, rfl, rfl, rfl⟩).below _), Lib.hid (⟨(fun e => by rw [hb _ (by decide)] at e; cases e), fun _ => HR3.out, (fun e => by rw [hb _ (by decide)] at e; cases e)⟩)⟩
            all_goals (intro e; first | rfl | (rw [hb _ (by decide)] at e; cases e))
          case stepsE =>
            refine ⟨?_, ?_, ?_, ?_, ?_, ?_, ?_, ?_, ?_, ?_, ?_, ?_, trivial⟩
            · rintro b a wy hb hd ⟨z, z40, rfl, HV, HW, HX⟩ K hK
              clear hd
              have hbx := HBX3.out.below (by omega) HW.out
              refine if_wanted (by rfl) (wp_load_d (.tmp 2) rfl w.heap.size _ rfl (row_d hbx) ?_)
              have V := HV.out
              exact hK _ _ ⟨fun s => if s = 37 then .agg #[.bool true, .slice A m c, .slice (some ⟨bk, o, none⟩) m d] else z s, _, rfl, Lib.hid ⟨fun _ => rfl, V.2.1, V.2.2.1, V.2.2.2.1, V.2.2.2.2.1, V.2.2.2.2.2.1, V.2.2.2.2.2.2.1, V.2.2.2.2.2.2.2.1, V.2.2.2.2.2.2.2.2.1, V.2.2.2.2.2.2.2.2.2⟩, HW, HX⟩
            · rintro b a wy hb hd ⟨z, z40, rfl, HV, HW, HX⟩ K hK
              clear hd
              go_simp
              have V := HV.out
              exact hK _ _ ⟨fun s => if s = 38 then Value.int IntKind.i64 ↑(low ks k) else z s, _, rfl, Lib.hid ⟨V.1, fun _ => rfl, V.2.2.1, V.2.2.2.1, V.2.2.2.2.1, V.2.2.2.2.2.1, V.2.2.2.2.2.2.1, V.2.2.2.2.2.2.2.1, V.2.2.2.2.2.2.2.2.1, V.2.2.2.2.2.2.2.2.2⟩, HW, HX⟩
            · rintro b a wy hb hd ⟨z, z40, rfl, HV, HW, HX⟩ K hK
              clear hd
              go_simp
              have V := HV.out
              exact hK _ _ ⟨fun s => if s = 39 then Value.int IntKind.i64 ↑(upto ks k) else z s, _, rfl, Lib.hid ⟨V.1, V.2.1, fun _ => rfl, V.2.2.2.1, V.2.2.2.2.1, V.2.2.2.2.2.1, V.2.2.2.2.2.2.1, V.2.2.2.2.2.2.2.1, V.2.2.2.2.2.2.2.2.1, V.2.2.2.2.2.2.2.2.2⟩, HW, HX⟩
            · rintro b a wy hb hd ⟨z, z40, rfl, HV, HW, HX⟩ K hK
              simp [Region.binds] at hd
              have e0 : (z 37) = .agg #[.bool true, .slice A m c, .slice (some ⟨bk, o, none⟩) m d] := (HV.out.1) (by simp [hd])
              have e1 : (z 38) = Value.int IntKind.i64 ↑(low ks k) := (HV.out.2.1) (by simp [hd])
              have e2 : (z 39) = Value.int IntKind.i64 ↑(upto ks k) := (HV.out.2.2.1) (by simp [hd])
              clear hd
              obtain ⟨x1, x2, x3⟩ := HX.out
              have hsz9 : w.heap.size + 2 ≤ wy.heap.size := by have := HW.out.size; omega
              have HNy := Lib.hid (HN0.out.below (BB3.out.trans (HW.out.mono (by omega))))
              have b9 : b 9 = false := by
                  rcases Bool.eq_false_or_eq_true (b 9) with e | e
                  · exact absurd (hb.symm.trans (x3 e).1) (by decide)
                  · exact e
              have C1 := without_any true HNy.out (low ks k) (upto ks k) (by omega) (by omega) (by omega)
              go_simp
              go_at_call 37
              refine (C1).mono ?_
              rintro e wz ⟨v, rfl, ow, kz⟩
              try go_simp
              have V := HV.out
              exact hK _ _ ⟨fun s => if s = 37 then .agg #[.bool true, .slice A m c, .slice (some ⟨bk, o, none⟩) m d] else if s = 38 then Value.int IntKind.i64 ↑(low ks k) else if s = 39 then Value.int IntKind.i64 ↑(upto ks k) else z s, _, rfl, Lib.hid ⟨fun _ => rfl, fun _ => rfl, fun _ => rfl, V.2.2.2.1, V.2.2.2.2.1, V.2.2.2.2.2.1, V.2.2.2.2.2.2.1, V.2.2.2.2.2.2.2.1, V.2.2.2.2.2.2.2.2.1, V.2.2.2.2.2.2.2.2.2⟩, Lib.hid (HW.out.trans (kz.mono (by omega))), Lib.hid ⟨fun _ => ow.mono hsz9, fun e => (x2 e).below (by omega) kz, fun e => absurd (b9.symm.trans e) (by decide)⟩⟩
            · rintro b a wy hb hd ⟨z, z40, rfl, HV, HW, HX⟩ K hK
              clear hd
              go_simp
              have V := HV.out
              exact hK _ _ ⟨fun s => if s = 41 then .pointer (some ⟨w.heap.size, 2, none⟩) else z s, _, rfl, Lib.hid ⟨V.1, V.2.1, V.2.2.1, fun _ => rfl, V.2.2.2.2.1, V.2.2.2.2.2.1, V.2.2.2.2.2.2.1, V.2.2.2.2.2.2.2.1, V.2.2.2.2.2.2.2.2.1, V.2.2.2.2.2.2.2.2.2⟩, HW, HX⟩
            · rintro b a wy hb hd ⟨z, z40, rfl, HV, HW, HX⟩ K hK
              simp [Region.binds] at hd
              have e4 : (z 41) = .pointer (some ⟨w.heap.size, 2, none⟩) := (HV.out.2.2.2.1) (by simp [hd])
              clear hd
              have hbx := HBX3.out.below (by omega) HW.out
              have c2 := hbx.cellAt (i := 2) rfl
              clear hbx
              go_simp
              have V := HV.out
              exact hK _ _ ⟨fun s => if s = 42 then .slice (some ⟨bk, o, none⟩) m d else if s = 41 then .pointer (some ⟨w.heap.size, 2, none⟩) else z s, _, rfl, Lib.hid ⟨V.1, V.2.1, V.2.2.1, fun _ => rfl, fun _ => rfl, V.2.2.2.2.2.1, V.2.2.2.2.2.2.1, V.2.2.2.2.2.2.2.1, V.2.2.2.2.2.2.2.2.1, V.2.2.2.2.2.2.2.2.2⟩, HW, HX⟩
            · rintro b a wy hb hd ⟨z, z40, rfl, HV, HW, HX⟩ K hK
              clear hd
              go_simp
              have V := HV.out
              exact hK _ _ ⟨fun s => if s = 43 then Value.int IntKind.i64 ↑(low ks k) else z s, _, rfl, Lib.hid ⟨V.1, V.2.1, V.2.2.1, V.2.2.2.1, V.2.2.2.2.1, fun _ => rfl, V.2.2.2.2.2.2.1, V.2.2.2.2.2.2.2.1, V.2.2.2.2.2.2.2.2.1, V.2.2.2.2.2.2.2.2.2⟩, HW, HX⟩
            · rintro b a wy hb hd ⟨z, z40, rfl, HV, HW, HX⟩ K hK
              simp [Region.binds] at hd
              have e5 : (z 42) = .slice (some ⟨bk, o, none⟩) m d := (HV.out.2.2.2.2.1) (by simp [hd])
              have e6 : (z 43) = Value.int IntKind.i64 ↑(low ks k) := (HV.out.2.2.2.2.2.1) (by simp [hd])
              clear hd
              go_simp
              have V := HV.out
              exact hK _ _ ⟨fun s => if s = 44 then .pointer (some ⟨bk, o + low ks k, none⟩) else if s = 42 then .slice (some ⟨bk, o, none⟩) m d else if s = 43 then Value.int IntKind.i64 ↑(low ks k) else z s, _, rfl, Lib.hid ⟨V.1, V.2.1, V.2.2.1, V.2.2.2.1, fun _ => rfl, fun _ => rfl, fun _ => rfl, V.2.2.2.2.2.2.2.1, V.2.2.2.2.2.2.2.2.1, V.2.2.2.2.2.2.2.2.2⟩, HW, HX⟩
            · rintro b a wy hb hd ⟨z, z40, rfl, HV, HW, HX⟩ K hK
              simp [Region.binds] at hd
              have e7 : (z 44) = .pointer (some ⟨bk, o + low ks k, none⟩) := (HV.out.2.2.2.2.2.2.1) (by simp [hd])
              clear hd
              have cv := ((BB3.out.trans (HW.out.mono (by omega))).cell (p := ⟨bk, o + low ks k, none⟩) hbl).trans HVAL.out
              go_simp
              have V := HV.out
              exact hK _ _ ⟨fun s => if s = 45 then .int .u64 (val.toNat : Int) else if s = 44 then .pointer (some ⟨bk, o + low ks k, none⟩) else z s, _, rfl, Lib.hid ⟨V.1, V.2.1, V.2.2.1, V.2.2.2.1, V.2.2.2.2.1, V.2.2.2.2.2.1, fun _ => rfl, fun _ => rfl, V.2.2.2.2.2.2.2.2.1, V.2.2.2.2.2.2.2.2.2⟩, HW, HX⟩
            · rintro b a wy hb hd ⟨z, z40, rfl, HV, HW, HX⟩ K hK
              simp [Region.binds] at hd
              have dd3 : b 3 = true := by simp [hd]
              clear hd
              obtain ⟨x1, x2, x3⟩ := HX.out
              have hr := x2 hb
              refine if_wanted (by rfl) (wp_store_d (.tmp 4) (.tmp 40) rfl (w.heap.size + 1) (w.heap.size + 2) z40 _ true (cutIn ks (low ks k) (upto ks k) []) (cutIn vs (low ks k) (upto ks k) []) rfl rfl hr (x1 dd3) (fun cs HC => ?_))
              have V := HV.out
              exact hK _ _ ⟨fun s => z s, _, rfl, Lib.hid ⟨V.1, V.2.1, V.2.2.1, V.2.2.2.1, V.2.2.2.2.1, V.2.2.2.2.2.1, V.2.2.2.2.2.2.1, V.2.2.2.2.2.2.2.1, V.2.2.2.2.2.2.2.2.1, V.2.2.2.2.2.2.2.2.2⟩, Lib.hid (HW.out.trans (row_below _ (by omega))), Lib.hid ⟨fun e => (x1 e).row _ (by omega), fun e => (by cases e), fun _ => ⟨dd3, HC⟩⟩⟩
            · rintro b a wy hb hd ⟨z, z40, rfl, HV, HW, HX⟩ K hK
              simp [Region.binds] at hd
              have e8 : (z 45) = .int .u64 (val.toNat : Int) := (HV.out.2.2.2.2.2.2.2.1) (by simp [hd])
              clear hd
              go_simp
              have V := HV.out
              exact hK _ _ ⟨fun s => if s = 5 then .int .u64 (val.toNat : Int) else if s = 45 then .int .u64 (val.toNat : Int) else z s, _, rfl, Lib.hid ⟨V.1, V.2.1, V.2.2.1, V.2.2.2.1, V.2.2.2.2.1, V.2.2.2.2.2.1, V.2.2.2.2.2.2.1, fun _ => rfl, fun _ => rfl, V.2.2.2.2.2.2.2.2.2⟩, HW, HX⟩
            · rintro b a wy hb hd ⟨z, z40, rfl, HV, HW, HX⟩ K hK
              clear hd
              go_simp
              have V := HV.out
              exact hK _ _ ⟨fun s => if s = 6 then .int .i64 0 else z s, _, rfl, Lib.hid ⟨V.1, V.2.1, V.2.2.1, V.2.2.2.1, V.2.2.2.2.1, V.2.2.2.2.2.1, V.2.2.2.2.2.2.1, V.2.2.2.2.2.2.2.1, V.2.2.2.2.2.2.2.2.1, fun _ => rfl⟩, HW, HX⟩
          case doneE =>
            rintro b a w9 hb ⟨z, z40, rfl, HV, HW, HX⟩
            have e0 := (HV.out.1) (hb 0)
            have e1 := (HV.out.2.1) (hb 1)
            have e2 := (HV.out.2.2.1) (hb 2)
            have e4 := (HV.out.2.2.2.1) (hb 4)
            have e5 := (HV.out.2.2.2.2.1) (hb 5)
            have e6 := (HV.out.2.2.2.2.2.1) (hb 6)
            have e7 := (HV.out.2.2.2.2.2.2.1) (hb 7)
            have e8 := (HV.out.2.2.2.2.2.2.2.1) (hb 8)
            have e10 := (HV.out.2.2.2.2.2.2.2.2.1) (hb 10)
            have e11 := (HV.out.2.2.2.2.2.2.2.2.2) (hb 11)
            simp only [e0, e1, e2, e4, e5, e6, e7, e8, e10, e11]
            clear HV e0 e1 e2 e4 e5 e6 e7 e8 e10 e11
            obtain ⟨x1, _, x3⟩ := HX.out
            have H9 := Lib.hid (x1 (hb 3))
            have HR9 := Lib.hid (x3 (hb 9)).2
            have HB9 := Lib.hid (BB3.out.trans (HW.out.mono (by omega)))
            clear x1 x3 HX HW hb
            go_wp2_with fail
            refine bodyPost_ret (v := _) (res_node rfl _ rfl HR9.out) rfl ⟨_, ?_, H9.out.mono (by omega), HB9.out⟩
            first
            | rfl
            | (rw [← HG.out]; rfl)
            | (simp only [List.getD_eq_getElem?_getD, List.getElem?_eq_getElem hlv, Option.getD_some, ← HG.out]; rfl)
    · rw [decide_eq_false hk]
      have E2 := E.out
      rw [if_neg hk] at E2
      subst E2
      go_wp2_with (first | (refine wpList_build_as rfl 24 #[] rfl #[.bool false, .slice none 0 0, .slice none 0 0] (by simp [Act.eval]; exact node_bare) ?_) | (refine wpList_store_d rfl (.tmp 4) (.tmp 25) rfl (w.heap.size + 1) 0 zeroD _ false [] [] rfl rfl HR3.out (own_zero _ _) ?_; intro cs HC))
      exact bodyPost_ret (v := _) (res_node rfl _ rfl HC) rfl ⟨_, rfl, own_zero _ _, BB3.out.trans (row_below cs (by omega))⟩
  · rw [decide_eq_false hok]
    obtain rfl : t = (zn, 0, 30) := by rw [HT.out]; unfold takeR; rw [if_neg hok]
    go_wp2_with (first | (refine wpList_build_as rfl 24 #[] rfl #[.bool false, .slice none 0 0, .slice none 0 0] (by simp [Act.eval]; exact node_bare) ?_) | (refine wpList_store_d rfl (.tmp 4) (.tmp 13) rfl (w.heap.size + 1) 0 zeroD _ false [] [] rfl rfl HR2.out (own_zero _ _) ?_; intro cs HC))
    exact bodyPost_ret (v := _) (res_node rfl _ rfl HC) rfl ⟨_, rfl, own_zero _ _, BB2.out.trans (row_below cs (by omega))⟩


set_option maxRecDepth 100000 in
set_option maxHeartbeats 4000000 in
theorem split_any (l : Bool) {w : World} {A B : Option Addr} {n c m d : Nat} {ks vs : List UInt64} (h : Nd w A n c B m d ks vs) (t : PN × PN × Nat) (ht : t = splitR l ks vs) :
    Calls Try.prog 19 #[.agg #[.bool l, .slice A n c, .slice B m d]] w fun e w' => ∃ u v, e = .returned (.tuple #[u, v, .int .i64 (t.2.2 : Nat)]) ∧ OwnD w' w.heap.size u t.1.1 t.1.2.1 t.1.2.2 ∧ OwnD w' w.heap.size v t.2.1.1 t.2.1.2.1 t.2.1.2.2 ∧ Below w.heap.size w w' := by
  have b1 := (Below.refl w.heap.size w).alloc (Nat.le_refl _) (.cells #[.bool l, .slice A n c, .slice B m d] 24)
  have b2 := b1.alloc b1.size (.cells #[.bool false, .slice none 0 0, .slice none 0 0] 24)
  have BB := Lib.hid (b2.alloc b2.size (.cells #[.bool false, .slice none 0 0, .slice none 0 0] 24))
  have HBX := Lib.hid (((box_row w l A n c B m d).below (by simp) ((Below.refl _ _).alloc (Nat.le_refl _) (.cells #[.bool false, .slice none 0 0, .slice none 0 0] 24))).below (by simp; omega) ((Below.refl _ _).alloc (Nat.le_refl _) (.cells #[.bool false, .slice none 0 0, .slice none 0 0] 24)))
  have HR := Lib.hid ((box_d (w.alloc (.cells #[.bool l, .slice A n c, .slice B m d] 24)) (.bool false) (.slice none 0 0) (.slice none 0 0)).new (.cells #[.bool false, .slice none 0 0, .slice none 0 0] 24))
  have HS := Lib.hid (box_d ((w.alloc (.cells #[.bool l, .slice A n c, .slice B m d] 24)).alloc (.cells #[.bool false, .slice none 0 0, .slice none 0 0] 24)) (.bool false) (.slice none 0 0) (.slice none 0 0))
  rw [show (w.alloc (.cells #[.bool l, .slice A n c, .slice B m d] 24)).heap.size = w.heap.size + 1 by simp] at HR
  rw [show ((w.alloc (.cells #[.bool l, .slice A n c, .slice B m d] 24)).alloc (.cells #[.bool false, .slice none 0 0, .slice none 0 0] 24)).heap.size = w.heap.size + 2 by simp] at HS
  have HN := Lib.hid (h.below BB.out)
  have kl := h.kl
  have HT := Lib.hid ht
  have hz := node_zero
  have hs3 : (((w.alloc (.cells #[.bool l, .slice A n c, .slice B m d] 24)).alloc (.cells #[.bool false, .slice none 0 0, .slice none 0 0] 24)).alloc (.cells #[.bool false, .slice none 0 0, .slice none 0 0] 24)).heap.size = w.heap.size + 3 := by simp
  have HN0 := Lib.hid h
  have hn63 := Nat.le_trans h.kc h.km
  unfold maxLen at hn63
  clear h ht b1 b2
  go_enter Try.func19, Try.ntmps19
  go_wp2_with fail
  generalize ((w.alloc (.cells #[.bool l, .slice A n c, .slice B m d] 24)).alloc (.cells #[.bool false, .slice none 0 0, .slice none 0 0] 24)).alloc (.cells #[.bool false, .slice none 0 0, .slice none 0 0] 24) = w1 at *
  refine (right_any l HN.out).mono ?_
  rintro e w2 ⟨rfl, B2⟩
  have BB2 := Lib.hid (BB.out.trans (B2.mono BB.out.size))
  have HBX2 := Lib.hid (HBX.out.below HBX.out.lt B2)
  have HR2 := Lib.hid (HR.out.below HR.out.lt B2)
  have HS2 := Lib.hid (HS.out.below HS.out.lt B2)
  have HN2 := Lib.hid (HN.out.below B2)
  have hw2 : w.heap.size + 3 ≤ w2.heap.size := by have := B2.size; omega
  have c1 := HBX2.out.cellAt (i := 1) rfl
  clear B2
  by_cases hok : Ok l ks vs
  · rw [decide_eq_true hok]
    obtain rfl : m = n := by rw [← HN.out.vl, ← kl]; exact hok.2.1
    have h7 := hok.1
    have HK := Lib.hid hok
    have E := Lib.hid (show t = (if ks.length < 2 then (zn, zn, 122) else ((l, cutIn ks ((ks.length + 1) / 2) ks.length [], cutIn vs ((ks.length + 1) / 2) ks.length []), (l, cutIn ks 0 ((ks.length + 1) / 2) [], cutIn vs 0 ((ks.length + 1) / 2) []), 0)) by rw [HT.out]; unfold splitR; rw [if_pos hok])
    clear hok
    by_cases h2 : ks.length < 2
    · have E2 := E.out
      rw [if_pos h2] at E2
      subst E2
      have hm2 : (m : Int) < 2 := by omega
      clear h2
      go_wp2_with (first | (refine wpList_build_as rfl 24 #[] rfl #[.bool false, .slice none 0 0, .slice none 0 0] (by simp [Act.eval]; exact node_bare) ?_) | (refine wpList_store_d rfl (.tmp 2) (.tmp 18) rfl (w.heap.size + 1) 0 zeroD _ false [] [] rfl rfl HR2.out (own_zero _ _) ?_; intro cs HC) | (refine wpList_store_d rfl (.tmp 3) (.tmp 19) rfl (w.heap.size + 2) 0 zeroD _ false [] [] rfl rfl (HS2.out.other _ (by omega)) (own_zero _ _) ?_; intro cs2 HC2))
      exact bodyPost_ret (v := _) (res_three rfl _ rfl rfl (HC.other _ (by omega)) HC2) rfl ⟨_, _, rfl, own_zero _ _, own_zero _ _, (BB2.out.trans (row_below cs (by omega))).trans (row_below cs2 (by omega))⟩
    · have E2 := E.out
      rw [if_neg h2] at E2
      subst E2
      have hm2 : ¬ (m : Int) < 2 := by omega
      clear h2
      go_wp2_with (first | (refine wpList_load_d rfl (.tmp 1) rfl w.heap.size _ rfl (row_d HBX2.out) ?_))
      refine (halves_any l HN2.out (by omega) ((ks.length + 1) / 2) (by rw [kl])).mono ?_
      rintro e w3 ⟨u, v, rfl, o1, o2, B3⟩
      have BB3 := Lib.hid (BB2.out.trans (B3.mono BB2.out.size))
      have HR3 := Lib.hid (HR2.out.below HR2.out.lt B3)
      have HS3 := Lib.hid (HS2.out.below HS2.out.lt B3)
      have hw3 : w.heap.size + 3 ≤ w3.heap.size := by have := B3.size; omega
      have q1 := (Below.refl w3.heap.size w3).alloc (Nat.le_refl _) (.cells #[.bool false, .slice none 0 0, .slice none 0 0] 24)
      have q2 := q1.alloc q1.size (.cells #[.bool false, .slice none 0 0, .slice none 0 0] 24)
      have X1 := Lib.hid ((box_d w3 (.bool false) (.slice none 0 0) (.slice none 0 0)).new (.cells #[.bool false, .slice none 0 0, .slice none 0 0] 24))
      have X2 := Lib.hid (box_d (w3.alloc (.cells #[.bool false, .slice none 0 0, .slice none 0 0] 24)) (.bool false) (.slice none 0 0) (.slice none 0 0))
      rw [show (w3.alloc (.cells #[.bool false, .slice none 0 0, .slice none 0 0] 24)).heap.size = w3.heap.size + 1 by simp] at X2
      have Q2 := Lib.hid q2
      have O1 := Lib.hid (o1.mono (base' := w.heap.size + 3) (by omega))
      have O2 := Lib.hid (o2.mono (base' := w.heap.size + 3) (by omega))
      clear B3 o1 o2 q1 q2
      go_upto_region 6 with (first | (refine wpList_store_d rfl (.tmp 5) (.tmp 23) rfl w3.heap.size (w.heap.size + 3) u _ _ _ _ rfl rfl X1.out (O1.out.at Q2.out) ?_; intro cs HC) | (refine wpList_store_d rfl (.tmp 6) (.tmp 24) rfl (w3.heap.size + 1) (w.heap.size + 3) v _ _ _ _ rfl rfl (X2.out.other _ (by omega)) (O2.out.at (Q2.out.trans (row_below cs (Nat.le_refl _)))) ?_; intro cs2 HC2))
      have k7 := (Q2.out.trans (row_below cs (Nat.le_refl _))).trans (row_below cs2 (show w3.heap.size ≤ w3.heap.size + 1 by omega))
      have U7 := Lib.hid (O1.out.at k7)
      have V7 := Lib.hid (O2.out.at k7)
      have HR7 := Lib.hid (HR3.out.below HR3.out.lt k7)
      have HS7 := Lib.hid (HS3.out.below HS3.out.lt k7)
      have X7 := Lib.hid (HC.other cs2 (show w3.heap.size ≠ w3.heap.size + 1 by omega))
      have Y7 := Lib.hid HC2
      have BB7 := Lib.hid (BB3.out.trans (k7.mono BB3.out.size))
      have hw7 := k7.size
      clear k7 HC HC2 X1 X2 O1 O2 Q2
      generalize (((w3.alloc (.cells #[.bool false, .slice none 0 0, .slice none 0 0] 24)).alloc (.cells #[.bool false, .slice none 0 0, .slice none 0 0] 24)).setRow w3.heap.size cs).setRow (w3.heap.size + 1) cs2 = w7 at *
      refine Inv2.wp_region_inv (fun b a wy => ∃ (z : Nat → Value), a = ⟨#[Value.agg #[Value.bool l, Value.slice A m c, Value.slice B m d], Value.pointer (some ⟨w.heap.size, 0, none⟩), Value.pointer (some ⟨w.heap.size + 1, 0, none⟩), Value.pointer (some ⟨w.heap.size + 1 + 1, 0, none⟩), (z 4), Value.pointer (some ⟨w3.heap.size, 0, none⟩), Value.pointer (some ⟨w3.heap.size + 1, 0, none⟩), Value.bool false, Value.agg #[Value.bool l, Value.slice A m c, Value.slice B m d], Value.bool true, Value.bool false, undef, undef, Value.bool (decide ((m : Int) < 2)), Value.pointer (some ⟨w.heap.size, 1, none⟩), Value.slice A m c, Value.int IntKind.i64 (m : Int), Value.bool (decide ((m : Int) < 2)), undef, undef, Value.tuple #[u, v], Value.agg #[Value.bool l, Value.slice A m c, Value.slice B m d], Value.tuple #[u, v], u, v, (z 25), (z 26)], []⟩ ∧ Hid ((b 0 = true → (z 25) = u) ∧ (b 1 = true → (z 26) = v) ∧ (b 4 = true → (z 4) = .int .i64 0)) ∧ Hid (Below (w.heap.size + 1) w7 wy) ∧ Hid ((b 2 = false → BoxD wy (w.heap.size + 1) zeroD) ∧ (b 2 = true → BoxD wy (w.heap.size + 1) u) ∧ (b 3 = false → BoxD wy (w.heap.size + 2) zeroD) ∧ (b 3 = true → BoxD wy (w.heap.size + 2) v) ∧ BoxD wy w3.heap.size u ∧ BoxD wy (w3.heap.size + 1) v ∧ OwnD wy (w.heap.size + 3) u l (cutIn ks ((ks.length + 1) / 2) m []) (cutIn vs ((ks.length + 1) / 2) m []) ∧ OwnD wy (w.heap.size + 3) v l (cutIn ks 0 ((ks.length + 1) / 2) []) (cutIn vs 0 ((ks.length + 1) / 2) []))) (by kernel_rfl) (by kernel_rfl) ?startS ?stepsS ?doneS
      case startS =>
        intro b hb
        refine ⟨fun s => if s = 4 then Value.int IntKind.i64 0 else undef, rfl, Lib.hid ⟨?_, ?_, ?_⟩, Lib.hid ((show Still w7 w7.drew from ⟨rfl, rfl, rfl, rfl⟩).below _), Lib.hid (⟨fun _ => HR7.out, (fun e => by rw [hb _ (by decide)] at e; cases e), fun _ => HS7.out, (fun e => by rw [hb _ (by decide)] at e; cases e), X7.out, Y7.out, U7.out, V7.out⟩)⟩
        all_goals (intro e; first | rfl | (rw [hb _ (by decide)] at e; cases e))
      case stepsS =>
        refine ⟨?_, ?_, ?_, ?_, ?_, trivial⟩
        · rintro b a wy hb hd ⟨z, rfl, HV, HW, HX⟩ K hK
          clear hd
          obtain ⟨x1, x2, x3, x4, x5, x6, x7, x8⟩ := HX.out
          refine if_wanted (by rfl) (wp_load_d (.tmp 5) rfl w3.heap.size _ rfl x5 ?_)
          have V := HV.out
          exact hK _ _ ⟨fun s => if s = 25 then u else z s, rfl, Lib.hid ⟨fun _ => rfl, V.2.1, V.2.2⟩, HW, HX⟩
        · rintro b a wy hb hd ⟨z, rfl, HV, HW, HX⟩ K hK
          clear hd
          obtain ⟨x1, x2, x3, x4, x5, x6, x7, x8⟩ := HX.out
          refine if_wanted (by rfl) (wp_load_d (.tmp 6) rfl (w3.heap.size + 1) _ rfl x6 ?_)
          have V := HV.out
          exact hK _ _ ⟨fun s => if s = 26 then v else z s, rfl, Lib.hid ⟨V.1, fun _ => rfl, V.2.2⟩, HW, HX⟩
        · rintro b a wy hb hd ⟨z, rfl, HV, HW, HX⟩ K hK
          simp [Region.binds] at hd
          have e0 : (z 25) = u := (HV.out.1) (by simp [hd])
          clear hd
          obtain ⟨x1, x2, x3, x4, x5, x6, x7, x8⟩ := HX.out
          have hr := x1 hb
          rw [e0]
          refine if_wanted (by rfl) (wp_store_d (.tmp 2) (.tmp 25) rfl (w.heap.size + 1) (w.heap.size + 3) u _ _ _ _ rfl rfl hr x7 (fun cs HC => ?_))
          have V := HV.out
          exact hK _ _ ⟨fun s => if s = 25 then u else z s, rfl, Lib.hid ⟨fun _ => rfl, V.2.1, V.2.2⟩, Lib.hid (HW.out.trans (row_below _ (by omega))), Lib.hid ⟨fun e => (by cases e), fun _ => HC, fun e => (x3 e).other _ (by omega), fun e => (x4 e).other _ (by omega), x5.other _ (by omega), x6.other _ (by omega), x7.row _ (by omega), x8.row _ (by omega)⟩⟩
        · rintro b a wy hb hd ⟨z, rfl, HV, HW, HX⟩ K hK
          simp [Region.binds] at hd
          have e1 : (z 26) = v := (HV.out.2.1) (by simp [hd])
          clear hd
          obtain ⟨x1, x2, x3, x4, x5, x6, x7, x8⟩ := HX.out
          have hr := x3 hb
          rw [e1]
          refine if_wanted (by rfl) (wp_store_d (.tmp 3) (.tmp 26) rfl (w.heap.size + 2) (w.heap.size + 3) v _ _ _ _ rfl rfl hr x8 (fun cs HC => ?_))
          have V := HV.out
          exact hK _ _ ⟨fun s => if s = 26 then v else z s, rfl, Lib.hid ⟨V.1, fun _ => rfl, V.2.2⟩, Lib.hid (HW.out.trans (row_below _ (by omega))), Lib.hid ⟨fun e => (x1 e).other _ (by omega), fun e => (x2 e).other _ (by omega), fun e => (by cases e), fun _ => HC, x5.other _ (by omega), x6.other _ (by omega), x7.row _ (by omega), x8.row _ (by omega)⟩⟩
        · rintro b a wy hb hd ⟨z, rfl, HV, HW, HX⟩ K hK
          clear hd
          go_simp
          have V := HV.out
          exact hK _ _ ⟨fun s => if s = 4 then .int .i64 0 else z s, rfl, Lib.hid ⟨V.1, V.2.1, fun _ => rfl⟩, HW, HX⟩
      case doneS =>
        rintro b a w9 hb ⟨z, rfl, HV, HW, HX⟩
        have e0 := (HV.out.1) (hb 0)
        have e1 := (HV.out.2.1) (hb 1)
        have e4 := (HV.out.2.2) (hb 4)
        simp only [e0, e1, e4]
        clear HV e0 e1 e4
        obtain ⟨_, x2, _, x4, _, _, x7, x8⟩ := HX.out
        have H9 := Lib.hid (And.intro x7 x8)
        have HR9 := Lib.hid (And.intro (x2 (hb 2)) (x4 (hb 3)))
        have HB9 := Lib.hid (BB7.out.trans (HW.out.mono (by omega)))
        clear x2 x4 x7 x8 HX HW hb
        go_wp2_with fail
        exact bodyPost_ret (v := _) (res_three rfl _ rfl rfl HR9.out.1 HR9.out.2) rfl ⟨_, _, rfl, by have := H9.out.1.mono (base' := w.heap.size) (by omega); simpa only [kl] using this, by have := H9.out.2.mono (base' := w.heap.size) (by omega); simpa only [kl] using this, HB9.out⟩
  · rw [decide_eq_false hok]
    obtain rfl : t = (zn, zn, 30) := by rw [HT.out]; unfold splitR; rw [if_neg hok]
    go_wp2_with (first | (refine wpList_build_as rfl 24 #[] rfl #[.bool false, .slice none 0 0, .slice none 0 0] (by simp [Act.eval]; exact node_bare) ?_) | (refine wpList_store_d rfl (.tmp 2) (.tmp 11) rfl (w.heap.size + 1) 0 zeroD _ false [] [] rfl rfl HR2.out (own_zero _ _) ?_; intro cs HC) | (refine wpList_store_d rfl (.tmp 3) (.tmp 12) rfl (w.heap.size + 2) 0 zeroD _ false [] [] rfl rfl (HS2.out.other _ (by omega)) (own_zero _ _) ?_; intro cs2 HC2))
    exact bodyPost_ret (v := _) (res_three rfl _ rfl rfl (HC.other _ (by omega)) HC2) rfl ⟨_, _, rfl, own_zero _ _, own_zero _ _, (BB2.out.trans (row_below cs (by omega))).trans (row_below cs2 (by omega))⟩
end Go.Proofs.Ytllopocekegljaa.No
