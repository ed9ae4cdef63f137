/- Layer 12: the contracts of At and Put. (Written by bin/gen_noh.py.) -/
import Derived.Test.YtllopocekegljaaNoG
namespace Go.Proofs.Ytllopocekegljaa.No
open Go.RowKit Go.Proofs.Ytllopocekegljaa.Oct Go.Proofs.Ytllopocekegljaa.Lf Go.Proofs.Ytllopocekegljaa.Mv
set_option linter.unusedVariables false
set_option linter.unusedSimpArgs false

/-- A node as data. -/
abbrev PN := Bool × List UInt64 × List UInt64
def zn : PN := (false, [], [])
theorem lowup (ks : List UInt64) (k : UInt64) : low ks k ≤ upto ks k := by unfold upto; omega
theorem lowup_lt (ks : List UInt64) (k : UInt64) : low ks k < upto ks k ↔ k ∈ ks := by
  unfold upto
  by_cases h : k ∈ ks
  · simp [h]
  · simp [h]
def atR (l : Bool) (ks vs : List UInt64) (k : UInt64) : Nat × Bool × Nat :=
  if Ok l ks vs then (if l = false ∧ k ∉ ks then low ks k - 1 else low ks k, decide (k ∈ ks), 0) else (0, false, 30)
def putR (l : Bool) (ks vs : List UInt64) (k x : UInt64) : PN × Bool × Nat :=
  if Ok l ks vs then (if k ∉ ks ∧ ks.length = 7 then (zn, false, 120) else ((l, cutIn ks (low ks k) (upto ks k) [k], cutIn vs (low ks k) (upto ks k) [x]), decide (k ∈ ks), 0)) else (zn, false, 30)

theorem one_told (w : World) (k : UInt64) : ToldN (w.alloc (.cells #[.int .u64 (k.toNat : Int)] 25)) (some ⟨w.heap.size, 0, none⟩) [k] := (show RowN (w.alloc (.cells #[.int .u64 (k.toNat : Int)] 25)) w.heap.size 25 [k] from alloc_rowN w 25 [k]).has.told

set_option maxRecDepth 100000 in
set_option maxHeartbeats 1000000 in
theorem at_any (l : Bool) {w : World} {A B : Option Addr} {n c m d : Nat} {ks vs : List UInt64} (h : Nd w A n c B m d ks vs) (k : UInt64) (t : Nat × Bool × Nat) (ht : t = atR l ks vs k) :
    Calls Try.prog 10 #[.agg #[.bool l, .slice A n c, .slice B m d], .int .u64 (k.toNat : Int)] w fun e w' => e = .returned (.tuple #[.int .i64 (t.1 : Nat), .bool t.2.1, .int .i64 (t.2.2 : Nat)]) ∧ Below w.heap.size w w' := by
  have BB := Lib.hid ((Below.refl w.heap.size w).alloc (Nat.le_refl _) (.cells #[.bool l, .slice A n c, .slice B m d] 24))
  have HBX := Lib.hid (box_row w l A n c B m d)
  have HN := Lib.hid (h.below BB.out)
  have kl := h.kl
  have HT := Lib.hid ht
  clear h ht
  go_enter Try.func10, Try.ntmps10
  go_wp2_with fail
  refine (right_any l HN.out).mono ?_
  rintro e w2 ⟨rfl, B2⟩
  have BB2 := Lib.hid (BB.out.trans (B2.mono BB.out.size))
  have HBX2 := Lib.hid (HBX.out.below HBX.out.lt B2)
  have HN2 := Lib.hid (HN.out.below B2)
  clear B2
  by_cases hok : Ok l ks vs
  · rw [decide_eq_true hok]
    have c0 := HBX2.out.cellAt (i := 0) rfl
    have c1 := HBX2.out.cellAt (i := 1) rfl
    have E := Lib.hid (show t = (if l = false ∧ k ∉ ks then low ks k - 1 else low ks k, decide (k ∈ ks), 0) by rw [HT.out]; unfold atR; rw [if_pos hok])
    have h7 := hok.1
    have HK := Lib.hid hok
    clear hok
    go_wp2_with fail
    refine (search_any A n c ks k HN2.out.kl (by omega) _ HN2.out.ks HK.out.2.2.1).mono ?_
    rintro e w3 ⟨rfl, S3⟩
    have BB3 := Lib.hid (BB2.out.trans (S3.below _))
    replace c0 := (S3.cell _).trans c0
    have l1 := low_le ks k
    clear S3 c1
    by_cases hk : k ∈ ks
    · rw [decide_eq_true hk]
      have E2 := E.out
      rw [if_neg (fun h => h.2 hk), decide_eq_true hk] at E2
      subst E2
      cases l
      all_goals
        go_wp2_with fail
        refine bodyPost_ret (v := _) (res_iii rfl _) rfl ⟨rfl, BB3.out⟩
    · rw [decide_eq_false hk]
      cases l
      · have E2 := E.out
        rw [if_pos ⟨rfl, hk⟩, decide_eq_false hk] at E2
        subst E2
        by_cases h0 : 0 < low ks k
        · have e1 : ((low ks k : Nat) : Int) - 1 = ((low ks k - 1 : Nat) : Int) := by omega
          have e2 : ¬ (((low ks k - 1 : Nat) : Int) < 0) := by omega
          go_wp2_with fail
          refine bodyPost_ret (v := _) (res_iii rfl _) rfl ⟨?_, BB3.out⟩
          rfl
        · have e0 : low ks k = 0 := by omega
          rw [e0]
          go_wp2_with fail
          refine bodyPost_ret (v := _) (res_iii rfl _) rfl ⟨?_, BB3.out⟩
          first
          | rfl
          | (rw [e0]; rfl)
      · have E2 := E.out
        rw [if_neg (fun h => by cases h.1), decide_eq_false hk] at E2
        subst E2
        go_wp2_with fail
        refine bodyPost_ret (v := _) (res_iii rfl _) rfl ⟨rfl, BB3.out⟩
  · rw [decide_eq_false hok]
    obtain rfl : t = (0, false, 30) := by rw [HT.out]; unfold atR; rw [if_neg hok]
    go_wp2_with fail
    refine bodyPost_ret (v := _) (res_iii rfl _) rfl ⟨rfl, BB2.out⟩


set_option maxRecDepth 100000 in
set_option maxHeartbeats 2000000 in
theorem put_any (l : Bool) {w : World} {A B : Option Addr} {n c m d : Nat} {ks vs : List UInt64} (h : Nd w A n c B m d ks vs) (k x : UInt64) (t : PN × Bool × Nat) (ht : t = putR l ks vs k x) :
    Calls Try.prog 14 #[.agg #[.bool l, .slice A n c, .slice B m d], .int .u64 (k.toNat : Int), .int .u64 (x.toNat : Int)] w fun e w' => ∃ v, e = .returned (.tuple #[v, .bool t.2.1, .int .i64 (t.2.2 : Nat)]) ∧ OwnD w' w.heap.size v t.1.1 t.1.2.1 t.1.2.2 ∧ Below w.heap.size w w' := by
  have b1 := (Below.refl w.heap.size w).alloc (Nat.le_refl _) (.cells #[.bool l, .slice A n c, .slice B m d] 24)
  have BB := Lib.hid (b1.alloc b1.size (.cells #[.bool false, .slice none 0 0, .slice none 0 0] 24))
  have HBX := Lib.hid ((box_row w l A n c B m d).below (by simp) ((Below.refl _ _).alloc (Nat.le_refl _) (.cells #[.bool false, .slice none 0 0, .slice none 0 0] 24)))
  have HR := Lib.hid (box_d (w.alloc (.cells #[.bool l, .slice A n c, .slice B m d] 24)) (.bool false) (.slice none 0 0) (.slice none 0 0))
  rw [show (w.alloc (.cells #[.bool l, .slice A n c, .slice B m d] 24)).heap.size = w.heap.size + 1 by simp] at HR
  have HN := Lib.hid (h.below BB.out)
  have kl := h.kl
  have HT := Lib.hid ht
  have hz := node_zero
  have hs2 : ((w.alloc (.cells #[.bool l, .slice A n c, .slice B m d] 24)).alloc (.cells #[.bool false, .slice none 0 0, .slice none 0 0] 24)).heap.size = w.heap.size + 2 := by simp
  clear h ht b1
  go_enter Try.func14, Try.ntmps14
  go_wp2_with fail
  generalize (w.alloc (.cells #[.bool l, .slice A n c, .slice B m d] 24)).alloc (.cells #[.bool false, .slice none 0 0, .slice none 0 0] 24) = w1 at *
  refine (right_any l HN.out).mono ?_
  rintro e w2 ⟨rfl, B2⟩
  have BB2 := Lib.hid (BB.out.trans (B2.mono BB.out.size))
  have HBX2 := Lib.hid (HBX.out.below HBX.out.lt B2)
  have HR2 := Lib.hid (HR.out.below HR.out.lt B2)
  have HN2 := Lib.hid (HN.out.below B2)
  have hw2 : w.heap.size + 2 ≤ w2.heap.size := by have := B2.size; omega
  clear B2
  by_cases hok : Ok l ks vs
  · rw [decide_eq_true hok]
    obtain rfl : m = n := by rw [← HN.out.vl, ← kl]; exact hok.2.1
    have h7 := hok.1
    have HK := Lib.hid hok
    have E := Lib.hid (show t = (if k ∉ ks ∧ ks.length = 7 then (zn, false, 120) else ((l, cutIn ks (low ks k) (upto ks k) [k], cutIn vs (low ks k) (upto ks k) [x]), decide (k ∈ ks), 0)) by rw [HT.out]; unfold putR; rw [if_pos hok])
    clear hok
    go_wp2_with (first | (refine wpList_load_d rfl (.tmp 3) rfl w.heap.size _ rfl (row_d HBX2.out) ?_))
    refine (span_any l HN2.out HK.out.2.2.1 (by omega) k k).mono ?_
    rintro e w3 ⟨rfl, B3⟩
    have BB3 := Lib.hid (BB2.out.trans (B3.mono BB2.out.size))
    have HBX3 := Lib.hid (HBX2.out.below HBX2.out.lt B3)
    have HR3 := Lib.hid (HR2.out.below HR2.out.lt B3)
    have HN3 := Lib.hid (HN2.out.below B3)
    have hw3 : w.heap.size + 2 ≤ w3.heap.size := by have := B3.size; omega
    clear B3
    rw [Nat.max_eq_right (lowup ks k), decide_eq_decide.2 (lowup_lt ks k)]
    have l1 := low_le ks k
    have l2 := upto_le ks k
    by_cases hf : k ∉ ks ∧ ks.length = 7
    · have E2 := E.out
      rw [if_pos hf] at E2
      subst E2
      obtain rfl : m = 7 := by omega
      rw [decide_eq_false hf.1]
      have c1 := HBX3.out.cellAt (i := 1) rfl
      have HF := Lib.hid hf
      clear hf
      go_wp2_with (first | (refine wpList_build_as rfl 24 #[] rfl #[.bool false, .slice none 0 0, .slice none 0 0] (by simp [Act.eval]; exact node_bare) ?_) | (refine wpList_store_d rfl (.tmp 6) (.tmp 32) rfl (w.heap.size + 1) 0 zeroD _ false [] [] rfl rfl HR3.out (own_zero _ _) ?_; intro cs HC))
      refine bodyPost_ret (v := _) (res_node rfl _ rfl HC) rfl ⟨_, rfl, own_zero _ _, BB3.out.trans (row_below cs (by omega))⟩
    · have E2 := E.out
      rw [if_neg hf] at E2
      subst E2
      have c1 := HBX3.out.cellAt (i := 1) rfl
      have HF := Lib.hid hf
      clear hf
      by_cases hk : k ∈ ks
      · rw [decide_eq_true hk]
        go_wp2_with (first | (refine wpList_load_d rfl (.tmp 3) rfl w.heap.size _ rfl (row_d HBX3.out) ?_))
        have t1 := one_told w3 k
        have q1 := (Below.refl w3.heap.size w3).alloc (Nat.le_refl _) (.cells #[.int .u64 (k.toNat : Int)] 25)
        have t2 := one_told (w3.alloc (.cells #[.int .u64 (k.toNat : Int)] 25)) x
        have q2 := (Below.refl (w3.alloc (.cells #[.int .u64 (k.toNat : Int)] 25)).heap.size (w3.alloc (.cells #[.int .u64 (k.toNat : Int)] 25))).alloc (Nat.le_refl _) (.cells #[.int .u64 (x.toNat : Int)] 25)
        rw [show (w3.alloc (.cells #[.int .u64 (k.toNat : Int)] 25)).heap.size = w3.heap.size + 1 by simp] at t2
        have t1' := t1.below q2
        have q3 := q1.trans (q2.mono q1.size)
        have hn4 := HN3.out.below q3
        have hr4 := HR3.out.below HR3.out.lt q3
        have bb4 := BB3.out.trans (q3.mono BB3.out.size)
        have hw4 := q3.size
        clear t1 q1 q2 q3
        generalize (w3.alloc (.cells #[.int .u64 (k.toNat : Int)] 25)).alloc (.cells #[.int .u64 (x.toNat : Int)] 25) = w4 at *
        refine (change_any l hn4 (low ks k) (upto ks k) (by omega) (by omega) (p := 1) (q := 1) (d1 := 1) (d2 := 1) (os := [k]) (ps := [x]) rfl rfl t1' t2 (by omega) (by omega)).mono ?_
        rintro e w5 ⟨vk, vv, rfl, o1, o2, B5⟩
        have HO := Lib.hid (show OwnD w5 (w.heap.size + 2) (.agg #[.bool l, vk, vv]) l _ _ from ⟨vk, vv, rfl, own_mono o1 (by omega), own_mono o2 (by omega)⟩)
        have HR5 := Lib.hid (hr4.below hr4.lt B5)
        have BB5 := Lib.hid (bb4.trans (B5.mono bb4.size))
        clear o1 o2 B5 hr4 bb4 t1' t2 hn4
        go_wp2_with (first | (refine wpList_store_d rfl (.tmp 6) (.tmp 40) rfl (w.heap.size + 1) (w.heap.size + 2) _ _ l _ _ rfl rfl HR5.out HO.out ?_; intro cs HC))
        exact bodyPost_ret (v := _) (res_node rfl _ rfl HC) rfl ⟨_, rfl, (HO.out.row cs (by omega)).mono (by omega), BB5.out.trans (row_below cs (by omega))⟩
      · rw [decide_eq_false hk]
        have hn7 : ¬ m = 7 := fun e => HF.out ⟨hk, by omega⟩
        have hn7' : ¬ ((m : Int) = 7) := by omega
        go_wp2_with (first | (refine wpList_load_d rfl (.tmp 3) rfl w.heap.size _ rfl (row_d HBX3.out) ?_))
        have t1 := one_told w3 k
        have q1 := (Below.refl w3.heap.size w3).alloc (Nat.le_refl _) (.cells #[.int .u64 (k.toNat : Int)] 25)
        have t2 := one_told (w3.alloc (.cells #[.int .u64 (k.toNat : Int)] 25)) x
        have q2 := (Below.refl (w3.alloc (.cells #[.int .u64 (k.toNat : Int)] 25)).heap.size (w3.alloc (.cells #[.int .u64 (k.toNat : Int)] 25))).alloc (Nat.le_refl _) (.cells #[.int .u64 (x.toNat : Int)] 25)
        rw [show (w3.alloc (.cells #[.int .u64 (k.toNat : Int)] 25)).heap.size = w3.heap.size + 1 by simp] at t2
        have t1' := t1.below q2
        have q3 := q1.trans (q2.mono q1.size)
        have hn4 := HN3.out.below q3
        have hr4 := HR3.out.below HR3.out.lt q3
        have bb4 := BB3.out.trans (q3.mono BB3.out.size)
        have hw4 := q3.size
        clear t1 q1 q2 q3
        generalize (w3.alloc (.cells #[.int .u64 (k.toNat : Int)] 25)).alloc (.cells #[.int .u64 (x.toNat : Int)] 25) = w4 at *
        refine (change_any l hn4 (low ks k) (upto ks k) (by omega) (by omega) (p := 1) (q := 1) (d1 := 1) (d2 := 1) (os := [k]) (ps := [x]) rfl rfl t1' t2 (by omega) (by omega)).mono ?_
        rintro e w5 ⟨vk, vv, rfl, o1, o2, B5⟩
        have HO := Lib.hid (show OwnD w5 (w.heap.size + 2) (.agg #[.bool l, vk, vv]) l _ _ from ⟨vk, vv, rfl, own_mono o1 (by omega), own_mono o2 (by omega)⟩)
        have HR5 := Lib.hid (hr4.below hr4.lt B5)
        have BB5 := Lib.hid (bb4.trans (B5.mono bb4.size))
        clear o1 o2 B5 hr4 bb4 t1' t2 hn4
        go_wp2_with (first | (refine wpList_store_d rfl (.tmp 6) (.tmp 40) rfl (w.heap.size + 1) (w.heap.size + 2) _ _ l _ _ rfl rfl HR5.out HO.out ?_; intro cs HC))
        exact bodyPost_ret (v := _) (res_node rfl _ rfl HC) rfl ⟨_, rfl, (HO.out.row cs (by omega)).mono (by omega), BB5.out.trans (row_below cs (by omega))⟩
  · rw [decide_eq_false hok]
    obtain rfl : t = (zn, false, 30) := by rw [HT.out]; unfold putR; rw [if_neg hok]
    go_wp2_with (first | (refine wpList_build_as rfl 24 #[] rfl #[.bool false, .slice none 0 0, .slice none 0 0] (by simp [Act.eval]; exact node_bare) ?_) | (refine wpList_store_d rfl (.tmp 6) (.tmp 15) rfl (w.heap.size + 1) 0 zeroD _ false [] [] rfl rfl HR2.out (own_zero _ _) ?_; intro cs HC))
    refine bodyPost_ret (v := _) (res_node rfl _ rfl HC) rfl ⟨_, rfl, own_zero _ _, BB2.out.trans (row_below cs (by omega))⟩

end Go.Proofs.Ytllopocekegljaa.No
