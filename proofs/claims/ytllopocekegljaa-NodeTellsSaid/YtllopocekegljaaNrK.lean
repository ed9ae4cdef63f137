/- Layer 12: the walk of the statement NodeTells. (Written by bin/gen_nrk.py.) -/
import Derived.Test.YtllopocekegljaaNrJ
import Derived.Test.YtllopocekegljaaNjL
namespace Go.Proofs.Ytllopocekegljaa.No
open Go.RowKit Go.Proofs.Ytllopocekegljaa.Oct Go.Proofs.Ytllopocekegljaa.Lf Go.Proofs.Ytllopocekegljaa.Mv
set_option linter.unusedVariables false
set_option linter.unusedSimpArgs false

theorem OwnD.pn {w : World} {base : Nat} {v : Value} {l : Bool} {ks vs : List UInt64} (h : OwnD w base v l ks vs) : ∃ A n c B m d, v = .agg #[.bool l, .slice A n c, .slice B m d] ∧ Nd w A n c B m d ks vs := by
  obtain ⟨A, c, B, d, e, h1⟩ := h.nd
  exact ⟨A, _, c, B, _, d, e, h1⟩
theorem box_new (w : World) (l : Bool) (A : Option Addr) (n c : Nat) (B : Option Addr) (m d : Nat) : BoxD (w.alloc (.cells #[.bool l, .slice A n c, .slice B m d] 24)) w.heap.size (.agg #[.bool l, .slice A n c, .slice B m d]) := box_d w _ _ _

theorem joinR_few (l : Bool) (ks vs : List UInt64) (l' : Bool) (ks' vs' : List UInt64) : (joinR l ks vs l' ks' vs').1.length ≤ 2 := by
  unfold joinR
  split
  · split <;> simp
  · simp

set_option maxRecDepth 100000 in
set_option maxHeartbeats 8000000 in
theorem tells_walk (haw : ∀ w : World, Calls Try.prog 9 #[] w fun e w' => e = .returned (.bool true) ∧ Below w.heap.size w w') (l l' : Bool) {w : World} {A B A' B' : Option Addr} {n c m d n' c' m' d' : Nat} {ks vs ks' vs' : List UInt64} (h : Nd w A n c B m d ks vs) (h' : Nd w A' n' c' B' m' d' ks' vs') (k x : UInt64) :
    Calls Try.prog 3 #[.agg #[.bool l, .slice A n c, .slice B m d], .agg #[.bool l', .slice A' n' c', .slice B' m' d'], .int .u64 (k.toNat : Int), .int .u64 (x.toNat : Int)] w fun e w' => e = .returned (.bool true) ∧ Below w.heap.size w w' := by
  have q1 := (Below.refl w.heap.size w).alloc (Nat.le_refl _) (.cells #[.bool l, .slice A n c, .slice B m d] 24)
  have HB := Lib.hid (show Below w.heap.size w ((w.alloc (.cells #[.bool l, .slice A n c, .slice B m d] 24)).alloc (.cells #[.bool l', .slice A' n' c', .slice B' m' d'] 24)) from q1.alloc q1.size (.cells #[.bool l', .slice A' n' c', .slice B' m' d'] 24))
  have XN := Lib.hid (show BoxD ((w.alloc (.cells #[.bool l, .slice A n c, .slice B m d] 24)).alloc (.cells #[.bool l', .slice A' n' c', .slice B' m' d'] 24)) w.heap.size (.agg #[.bool l, .slice A n c, .slice B m d]) from (box_d w _ _ _).new _)
  have YN := Lib.hid (show BoxD ((w.alloc (.cells #[.bool l, .slice A n c, .slice B m d] 24)).alloc (.cells #[.bool l', .slice A' n' c', .slice B' m' d'] 24)) (w.alloc (.cells #[.bool l, .slice A n c, .slice B m d] 24)).heap.size (.agg #[.bool l', .slice A' n' c', .slice B' m' d']) from box_d (w.alloc (.cells #[.bool l, .slice A n c, .slice B m d] 24)) _ _ _)
  rw [show (w.alloc (.cells #[.bool l, .slice A n c, .slice B m d] 24)).heap.size = w.heap.size + 1 by simp] at YN
  have NN := Lib.hid (h.below HB.out)
  have MM := Lib.hid (h'.below HB.out)
  have kl := Lib.hid h.kl
  have kl' := Lib.hid h'.kl
  have hs2 : ((w.alloc (.cells #[.bool l, .slice A n c, .slice B m d] 24)).alloc (.cells #[.bool l', .slice A' n' c', .slice B' m' d'] 24)).heap.size = w.heap.size + 2 := by simp
  have HAW := Lib.hid haw
  have x1 := XN.out.of.cellAt (i := 1) rfl
  have x2 := XN.out.of.cellAt (i := 2) rfl
  have y1 := YN.out.of.cellAt (i := 1) rfl
  have y2 := YN.out.of.cellAt (i := 2) rfl
  clear h h' haw q1
  go_enter Try.func3, Try.ntmps3
  go_upto_region 1 with (fail)
  generalize (w.alloc (.cells #[.bool l, .slice A n c, .slice B m d] 24)).alloc (.cells #[.bool l', .slice A' n' c', .slice B' m' d'] 24) = w1 at *
  by_cases h0 : 20 < n
  · skip
    have g0 : (20 : Int) < (n : Int) := by omega
    go_wp2_with fail
    refine (HAW.out _).mono ?_
    rintro e w2 ⟨rfl, kz⟩
    replace XN := Lib.hid (XN.out.below XN.out.lt kz)
    replace YN := Lib.hid (YN.out.below YN.out.lt kz)
    replace NN := Lib.hid (NN.out.below kz)
    replace MM := Lib.hid (MM.out.below kz)
    replace HB := Lib.hid (HB.out.trans (kz.mono HB.out.size))
    clear kz
    go_wp2_with fail
    go_ret
    exact ⟨rfl, HB.out⟩
  · skip
    have g0 : ¬ (20 : Int) < (n : Int) := by omega
    by_cases h1 : 20 < n'
    · skip
      have g1 : (20 : Int) < (n' : Int) := by omega
      go_wp2_with fail
      refine (HAW.out _).mono ?_
      rintro e w2 ⟨rfl, kz⟩
      replace XN := Lib.hid (XN.out.below XN.out.lt kz)
      replace YN := Lib.hid (YN.out.below YN.out.lt kz)
      replace NN := Lib.hid (NN.out.below kz)
      replace MM := Lib.hid (MM.out.below kz)
      replace HB := Lib.hid (HB.out.trans (kz.mono HB.out.size))
      clear kz
      go_wp2_with fail
      go_ret
      exact ⟨rfl, HB.out⟩
    · skip
      have g1 : ¬ (20 : Int) < (n' : Int) := by omega
      by_cases h2 : 20 < m
      · skip
        have g2 : (20 : Int) < (m : Int) := by omega
        go_wp2_with fail
        refine (HAW.out _).mono ?_
        rintro e w2 ⟨rfl, kz⟩
        replace XN := Lib.hid (XN.out.below XN.out.lt kz)
        replace YN := Lib.hid (YN.out.below YN.out.lt kz)
        replace NN := Lib.hid (NN.out.below kz)
        replace MM := Lib.hid (MM.out.below kz)
        replace HB := Lib.hid (HB.out.trans (kz.mono HB.out.size))
        clear kz
        go_wp2_with fail
        go_ret
        exact ⟨rfl, HB.out⟩
      · skip
        have g2 : ¬ (20 : Int) < (m : Int) := by omega
        by_cases h3 : 20 < m'
        · skip
          have g3 : (20 : Int) < (m' : Int) := by omega
          go_wp2_with fail
          refine (HAW.out _).mono ?_
          rintro e w2 ⟨rfl, kz⟩
          replace XN := Lib.hid (XN.out.below XN.out.lt kz)
          replace YN := Lib.hid (YN.out.below YN.out.lt kz)
          replace NN := Lib.hid (NN.out.below kz)
          replace MM := Lib.hid (MM.out.below kz)
          replace HB := Lib.hid (HB.out.trans (kz.mono HB.out.size))
          clear kz
          go_wp2_with fail
          go_ret
          exact ⟨rfl, HB.out⟩
        · skip
          have g3 : ¬ (20 : Int) < (m' : Int) := by omega
          obtain ⟨⟨a1, a2, a3⟩, hta⟩ : ∃ q, q = atR l ks vs k := ⟨_, rfl⟩
          have HTA := Lib.hid hta
          go_upto_region 3 with (fail)
          clear hta x1 x2 y1 y2 g0 g1 g2 g3 hs2
          go_wp2_with (first | (refine wpList_load_d rfl (.tmp 4) rfl w.heap.size _ rfl XN.out ?_))
          refine (at_any l NN.out k _ HTA.out).mono ?_
          rintro e w2 ⟨rfl, kz⟩
          replace XN := Lib.hid (XN.out.below XN.out.lt kz)
          replace YN := Lib.hid (YN.out.below YN.out.lt kz)
          replace NN := Lib.hid (NN.out.below kz)
          replace MM := Lib.hid (MM.out.below kz)
          replace HB := Lib.hid (HB.out.trans (kz.mono HB.out.size))
          clear kz
          go_wp2_with (first | (refine wpList_load_d rfl (.tmp 4) rfl w.heap.size _ rfl XN.out ?_))
          refine (rat_any l NN.out k _ HTA.out).mono ?_
          rintro e w3 ⟨rfl, kz⟩
          replace XN := Lib.hid (XN.out.below XN.out.lt kz)
          replace YN := Lib.hid (YN.out.below YN.out.lt kz)
          replace NN := Lib.hid (NN.out.below kz)
          replace MM := Lib.hid (MM.out.below kz)
          replace HB := Lib.hid (HB.out.trans (kz.mono HB.out.size))
          clear kz
          go_upto_region 5 with (fail)
          refine Inv2.wp_region_inv (fun b a wy => ∃ (z : Nat → Value), a = ⟨(List.toArray (Value.agg #[Value.bool l, Value.slice A n c, Value.slice B m d] :: Value.agg #[Value.bool l', Value.slice A' n' c', Value.slice B' m' d'] :: Value.int IntKind.u64 ↑k.toNat :: Value.int IntKind.u64 ↑x.toNat :: Value.pointer (some ⟨w.heap.size, 0, none⟩) :: Value.pointer (some ⟨w.heap.size + 1, 0, none⟩) :: undef :: undef :: Value.bool false :: Value.int IntKind.i64 (a1 : Int) :: Value.bool a2 :: Value.int IntKind.i64 (a3 : Int) :: Value.int IntKind.i64 (a1 : Int) :: Value.bool a2 :: Value.int IntKind.i64 (a3 : Int) :: undef :: undef :: undef :: undef :: undef :: undef :: undef :: undef :: undef :: undef :: undef :: undef :: undef :: undef :: undef :: undef :: undef :: Value.pointer (some ⟨w.heap.size, 1, none⟩) :: Value.slice A n c :: Value.int IntKind.i64 (n : Int) :: Value.bool false :: Value.bool false :: Value.pointer (some ⟨w.heap.size + 1, 1, none⟩) :: Value.slice A' n' c' :: Value.int IntKind.i64 ↑n' :: Value.bool false :: Value.bool false :: Value.bool false :: Value.pointer (some ⟨w.heap.size, 2, none⟩) :: Value.slice B m d :: Value.int IntKind.i64 (m : Int) :: Value.bool false :: Value.bool false :: Value.bool false :: Value.pointer (some ⟨w.heap.size + 1, 2, none⟩) :: Value.slice B' m' d' :: Value.int IntKind.i64 ↑m' :: Value.bool false :: Value.bool false :: undef :: Value.tuple #[Value.int IntKind.i64 (a1 : Int), Value.bool a2, Value.int IntKind.i64 (a3 : Int)] :: Value.agg #[Value.bool l, Value.slice A n c, Value.slice B m d] :: Value.int IntKind.u64 ↑k.toNat :: Value.tuple #[Value.int IntKind.i64 (a1 : Int), Value.bool a2, Value.int IntKind.i64 (a3 : Int)] :: Value.int IntKind.i64 (a1 : Int) :: Value.bool a2 :: Value.int IntKind.i64 (a3 : Int) :: Value.tuple #[Value.int IntKind.i64 (a1 : Int), Value.bool a2, Value.int IntKind.i64 (a3 : Int)] :: Value.agg #[Value.bool l, Value.slice A n c, Value.slice B m d] :: Value.int IntKind.u64 ↑k.toNat :: Value.tuple #[Value.int IntKind.i64 (a1 : Int), Value.bool a2, Value.int IntKind.i64 (a3 : Int)] :: Value.int IntKind.i64 (a1 : Int) :: Value.bool a2 :: Value.int IntKind.i64 (a3 : Int) :: (z 69) :: (z 70) :: (z 71) :: (z 72) :: (z 73) :: (z 74) :: (z 75) :: (z 76) :: (z 77) :: (z 78) :: (z 79) :: (z 80) :: (z 81) :: (z 82) :: (z 83) :: (z 84) :: (z 85) :: (z 86) :: (z 87) :: (z 88) :: undef :: undef :: undef :: undef :: undef :: undef :: undef :: undef :: undef :: undef :: undef :: undef :: undef :: undef :: undef :: undef :: undef :: undef :: undef :: undef :: undef :: undef :: undef :: undef :: undef :: undef :: undef :: undef :: undef :: undef :: undef :: undef :: undef :: undef :: undef :: undef :: undef :: undef :: undef :: undef :: undef :: undef :: undef :: undef :: undef :: undef :: undef :: undef :: undef :: undef :: undef :: undef :: undef :: undef :: undef :: undef :: undef :: undef :: undef :: undef :: undef :: undef :: undef :: undef :: undef :: undef :: undef :: undef :: undef :: undef :: undef :: undef :: undef :: undef :: undef :: undef :: undef :: undef :: undef :: undef :: undef :: undef :: undef :: undef :: undef :: undef :: undef :: undef :: undef :: undef :: undef :: undef :: undef :: undef :: undef :: undef :: undef :: undef :: undef :: undef :: undef :: undef :: undef :: undef :: undef :: undef :: undef :: undef :: undef :: undef :: undef :: undef :: undef :: undef :: undef :: undef :: undef :: undef :: undef :: undef :: undef :: undef :: undef :: undef :: undef :: undef :: undef :: undef :: undef :: undef :: undef :: undef :: undef :: undef :: undef :: undef :: undef :: undef :: undef :: undef :: undef :: undef :: undef :: undef :: undef :: undef :: undef :: undef :: undef :: undef :: undef :: undef :: undef :: undef :: undef :: [])), []⟩ ∧ Hid ((b 0 = true → (z 69) = .agg #[.bool l, .slice A n c, .slice B m d]) ∧ (b 1 = true → (z 70) = .bool (decide (Ok l ks vs))) ∧ (b 2 = true → (z 71) = .agg #[.bool l, .slice A n c, .slice B m d]) ∧ (b 3 = true → (z 72) = .bool (decide (Ok l ks vs))) ∧ (b 4 = true → (z 73) = .bool false) ∧ (b 5 = true → (z 74) = .bool false) ∧ (b 6 = true → (z 75) = Value.int IntKind.i64 (a1 : Int)) ∧ (b 7 = true → (z 76) = Value.int IntKind.i64 (a1 : Int)) ∧ (b 8 = true → (z 77) = .bool false) ∧ (b 9 = true → (z 78) = .bool false) ∧ (b 10 = true → (z 79) = .bool false) ∧ (b 11 = true → (z 80) = Value.bool a2) ∧ (b 12 = true → (z 81) = Value.bool a2) ∧ (b 13 = true → (z 82) = .bool false) ∧ (b 14 = true → (z 83) = .bool false) ∧ (b 15 = true → (z 84) = .bool false) ∧ (b 16 = true → (z 85) = Value.int IntKind.i64 (a3 : Int)) ∧ (b 17 = true → (z 86) = Value.int IntKind.i64 (a3 : Int)) ∧ (b 18 = true → (z 87) = .bool false) ∧ (b 19 = true → (z 88) = .bool false)) ∧ Hid (Below w3.heap.size w3 wy)) (by kernel_rfl) (by kernel_rfl) ?startD ?stepsD ?doneD
          case startD =>
            intro b hb
            refine ⟨fun s => undef, rfl, Lib.hid ⟨?_, ?_, ?_, ?_, ?_, ?_, ?_, ?_, ?_, ?_, ?_, ?_, ?_, ?_, ?_, ?_, ?_, ?_, ?_, ?_⟩, Lib.hid ((show Still w3 w3.drew from ⟨rfl, rfl, rfl, rfl⟩).below _)⟩
            all_goals (intro e; first | rfl | (rw [hb _ (by decide)] at e; cases e))
          case stepsD =>
            refine ⟨?_, ?_, ?_, ?_, ?_, ?_, ?_, ?_, ?_, ?_, ?_, ?_, ?_, ?_, ?_, ?_, ?_, ?_, ?_, ?_, trivial⟩
            · rintro b a wy hb hd ⟨z, rfl, HV, HW⟩ K hK
              clear hd
              have hbx := XN.out.below XN.out.lt HW.out
              refine if_wanted (by rfl) (wp_load_d (.tmp 4) rfl w.heap.size _ rfl hbx ?_)
              have V := HV.out
              have V10 := V.2.2.2.2.2.2.2.2.2.2
              exact hK _ _ ⟨fun s => if s = 69 then .agg #[.bool l, .slice A n c, .slice B m d] else z s, rfl, Lib.hid ⟨fun _ => rfl, V.2.1, V.2.2.1, V.2.2.2.1, V.2.2.2.2.1, V.2.2.2.2.2.1, V.2.2.2.2.2.2.1, V.2.2.2.2.2.2.2.1, V.2.2.2.2.2.2.2.2.1, V.2.2.2.2.2.2.2.2.2.1, V10.1, V10.2.1, V10.2.2.1, V10.2.2.2.1, V10.2.2.2.2.1, V10.2.2.2.2.2.1, V10.2.2.2.2.2.2.1, V10.2.2.2.2.2.2.2.1, V10.2.2.2.2.2.2.2.2.1, V10.2.2.2.2.2.2.2.2.2⟩, HW⟩
            · rintro b a wy hb hd ⟨z, rfl, HV, HW⟩ K hK
              simp [Region.binds] at hd
              have e0 : (z 69) = .agg #[.bool l, .slice A n c, .slice B m d] := (HV.out.1) (by simp [hd])
              clear hd
              have C1 := right_any l (NN.out.below HW.out)
              go_simp
              go_at_call 12
              refine (C1).mono ?_
              rintro e wz ⟨rfl, kz⟩
              try go_simp
              have V := HV.out
              have V10 := V.2.2.2.2.2.2.2.2.2.2
              exact hK _ _ ⟨fun s => if s = 70 then .bool (decide (Ok l ks vs)) else if s = 69 then .agg #[.bool l, .slice A n c, .slice B m d] else z s, rfl, Lib.hid ⟨fun _ => rfl, fun _ => rfl, V.2.2.1, V.2.2.2.1, V.2.2.2.2.1, V.2.2.2.2.2.1, V.2.2.2.2.2.2.1, V.2.2.2.2.2.2.2.1, V.2.2.2.2.2.2.2.2.1, V.2.2.2.2.2.2.2.2.2.1, V10.1, V10.2.1, V10.2.2.1, V10.2.2.2.1, V10.2.2.2.2.1, V10.2.2.2.2.2.1, V10.2.2.2.2.2.2.1, V10.2.2.2.2.2.2.2.1, V10.2.2.2.2.2.2.2.2.1, V10.2.2.2.2.2.2.2.2.2⟩, Lib.hid (HW.out.trans (kz.mono HW.out.size))⟩
            · rintro b a wy hb hd ⟨z, rfl, HV, HW⟩ K hK
              clear hd
              have hbx := XN.out.below XN.out.lt HW.out
              refine if_wanted (by rfl) (wp_load_d (.tmp 4) rfl w.heap.size _ rfl hbx ?_)
              have V := HV.out
              have V10 := V.2.2.2.2.2.2.2.2.2.2
              exact hK _ _ ⟨fun s => if s = 71 then .agg #[.bool l, .slice A n c, .slice B m d] else z s, rfl, Lib.hid ⟨V.1, V.2.1, fun _ => rfl, V.2.2.2.1, V.2.2.2.2.1, V.2.2.2.2.2.1, V.2.2.2.2.2.2.1, V.2.2.2.2.2.2.2.1, V.2.2.2.2.2.2.2.2.1, V.2.2.2.2.2.2.2.2.2.1, V10.1, V10.2.1, V10.2.2.1, V10.2.2.2.1, V10.2.2.2.2.1, V10.2.2.2.2.2.1, V10.2.2.2.2.2.2.1, V10.2.2.2.2.2.2.2.1, V10.2.2.2.2.2.2.2.2.1, V10.2.2.2.2.2.2.2.2.2⟩, HW⟩
            · rintro b a wy hb hd ⟨z, rfl, HV, HW⟩ K hK
              simp [Region.binds] at hd
              have e2 : (z 71) = .agg #[.bool l, .slice A n c, .slice B m d] := (HV.out.2.2.1) (by simp [hd])
              clear hd
              have C1 := rright_any l (NN.out.below HW.out)
              go_simp
              go_at_call 13
              refine (C1).mono ?_
              rintro e wz ⟨rfl, kz⟩
              try go_simp
              have V := HV.out
              have V10 := V.2.2.2.2.2.2.2.2.2.2
              exact hK _ _ ⟨fun s => if s = 72 then .bool (decide (Ok l ks vs)) else if s = 71 then .agg #[.bool l, .slice A n c, .slice B m d] else z s, rfl, Lib.hid ⟨V.1, V.2.1, fun _ => rfl, fun _ => rfl, V.2.2.2.2.1, V.2.2.2.2.2.1, V.2.2.2.2.2.2.1, V.2.2.2.2.2.2.2.1, V.2.2.2.2.2.2.2.2.1, V.2.2.2.2.2.2.2.2.2.1, V10.1, V10.2.1, V10.2.2.1, V10.2.2.2.1, V10.2.2.2.2.1, V10.2.2.2.2.2.1, V10.2.2.2.2.2.2.1, V10.2.2.2.2.2.2.2.1, V10.2.2.2.2.2.2.2.2.1, V10.2.2.2.2.2.2.2.2.2⟩, Lib.hid (HW.out.trans (kz.mono HW.out.size))⟩
            · rintro b a wy hb hd ⟨z, rfl, HV, HW⟩ K hK
              simp [Region.binds] at hd
              have e1 : (z 70) = .bool (decide (Ok l ks vs)) := (HV.out.2.1) (by simp [hd])
              have e3 : (z 72) = .bool (decide (Ok l ks vs)) := (HV.out.2.2.2.1) (by simp [hd])
              clear hd
              go_simp
              have V := HV.out
              have V10 := V.2.2.2.2.2.2.2.2.2.2
              exact hK _ _ ⟨fun s => if s = 73 then .bool false else if s = 70 then .bool (decide (Ok l ks vs)) else if s = 72 then .bool (decide (Ok l ks vs)) else z s, rfl, Lib.hid ⟨V.1, fun _ => rfl, V.2.2.1, fun _ => rfl, fun _ => by simp, V.2.2.2.2.2.1, V.2.2.2.2.2.2.1, V.2.2.2.2.2.2.2.1, V.2.2.2.2.2.2.2.2.1, V.2.2.2.2.2.2.2.2.2.1, V10.1, V10.2.1, V10.2.2.1, V10.2.2.2.1, V10.2.2.2.2.1, V10.2.2.2.2.2.1, V10.2.2.2.2.2.2.1, V10.2.2.2.2.2.2.2.1, V10.2.2.2.2.2.2.2.2.1, V10.2.2.2.2.2.2.2.2.2⟩, HW⟩
            · rintro b a wy hb hd ⟨z, rfl, HV, HW⟩ K hK
              simp [Region.binds] at hd
              have e4 : (z 73) = .bool false := (HV.out.2.2.2.2.1) (by simp [hd])
              clear hd
              go_simp
              have V := HV.out
              have V10 := V.2.2.2.2.2.2.2.2.2.2
              exact hK _ _ ⟨fun s => if s = 74 then .bool false else if s = 73 then .bool false else z s, rfl, Lib.hid ⟨V.1, V.2.1, V.2.2.1, V.2.2.2.1, fun _ => rfl, fun _ => rfl, V.2.2.2.2.2.2.1, V.2.2.2.2.2.2.2.1, V.2.2.2.2.2.2.2.2.1, V.2.2.2.2.2.2.2.2.2.1, V10.1, V10.2.1, V10.2.2.1, V10.2.2.2.1, V10.2.2.2.2.1, V10.2.2.2.2.2.1, V10.2.2.2.2.2.2.1, V10.2.2.2.2.2.2.2.1, V10.2.2.2.2.2.2.2.2.1, V10.2.2.2.2.2.2.2.2.2⟩, HW⟩
            · rintro b a wy hb hd ⟨z, rfl, HV, HW⟩ K hK
              simp [Region.binds] at hd
              have e5 : (z 74) = .bool false := (HV.out.2.2.2.2.2.1) (by simp [hd])
              clear hd
              go_simp
              have V := HV.out
              have V10 := V.2.2.2.2.2.2.2.2.2.2
              exact hK _ _ ⟨fun s => if s = 75 then Value.int IntKind.i64 (a1 : Int) else if s = 74 then .bool false else z s, rfl, Lib.hid ⟨V.1, V.2.1, V.2.2.1, V.2.2.2.1, V.2.2.2.2.1, fun _ => rfl, fun _ => rfl, V.2.2.2.2.2.2.2.1, V.2.2.2.2.2.2.2.2.1, V.2.2.2.2.2.2.2.2.2.1, V10.1, V10.2.1, V10.2.2.1, V10.2.2.2.1, V10.2.2.2.2.1, V10.2.2.2.2.2.1, V10.2.2.2.2.2.2.1, V10.2.2.2.2.2.2.2.1, V10.2.2.2.2.2.2.2.2.1, V10.2.2.2.2.2.2.2.2.2⟩, HW⟩
            · rintro b a wy hb hd ⟨z, rfl, HV, HW⟩ K hK
              simp [Region.binds] at hd
              have e5 : (z 74) = .bool false := (HV.out.2.2.2.2.2.1) (by simp [hd])
              clear hd
              go_simp
              have V := HV.out
              have V10 := V.2.2.2.2.2.2.2.2.2.2
              exact hK _ _ ⟨fun s => if s = 76 then Value.int IntKind.i64 (a1 : Int) else if s = 74 then .bool false else z s, rfl, Lib.hid ⟨V.1, V.2.1, V.2.2.1, V.2.2.2.1, V.2.2.2.2.1, fun _ => rfl, V.2.2.2.2.2.2.1, fun _ => rfl, V.2.2.2.2.2.2.2.2.1, V.2.2.2.2.2.2.2.2.2.1, V10.1, V10.2.1, V10.2.2.1, V10.2.2.2.1, V10.2.2.2.2.1, V10.2.2.2.2.2.1, V10.2.2.2.2.2.2.1, V10.2.2.2.2.2.2.2.1, V10.2.2.2.2.2.2.2.2.1, V10.2.2.2.2.2.2.2.2.2⟩, HW⟩
            · rintro b a wy hb hd ⟨z, rfl, HV, HW⟩ K hK
              simp [Region.binds] at hd
              have e5 : (z 74) = .bool false := (HV.out.2.2.2.2.2.1) (by simp [hd])
              have e6 : (z 75) = Value.int IntKind.i64 (a1 : Int) := (HV.out.2.2.2.2.2.2.1) (by simp [hd])
              have e7 : (z 76) = Value.int IntKind.i64 (a1 : Int) := (HV.out.2.2.2.2.2.2.2.1) (by simp [hd])
              clear hd
              go_simp
              have V := HV.out
              have V10 := V.2.2.2.2.2.2.2.2.2.2
              exact hK _ _ ⟨fun s => if s = 77 then .bool false else if s = 74 then .bool false else if s = 75 then Value.int IntKind.i64 (a1 : Int) else if s = 76 then Value.int IntKind.i64 (a1 : Int) else z s, rfl, Lib.hid ⟨V.1, V.2.1, V.2.2.1, V.2.2.2.1, V.2.2.2.2.1, fun _ => rfl, fun _ => rfl, fun _ => rfl, fun _ => by simp, V.2.2.2.2.2.2.2.2.2.1, V10.1, V10.2.1, V10.2.2.1, V10.2.2.2.1, V10.2.2.2.2.1, V10.2.2.2.2.2.1, V10.2.2.2.2.2.2.1, V10.2.2.2.2.2.2.2.1, V10.2.2.2.2.2.2.2.2.1, V10.2.2.2.2.2.2.2.2.2⟩, HW⟩
            · rintro b a wy hb hd ⟨z, rfl, HV, HW⟩ K hK
              simp [Region.binds] at hd
              have e5 : (z 74) = .bool false := (HV.out.2.2.2.2.2.1) (by simp [hd])
              have e8 : (z 77) = .bool false := (HV.out.2.2.2.2.2.2.2.2.1) (by simp [hd])
              clear hd
              go_simp
              have V := HV.out
              have V10 := V.2.2.2.2.2.2.2.2.2.2
              exact hK _ _ ⟨fun s => if s = 78 then .bool false else if s = 74 then .bool false else if s = 77 then .bool false else z s, rfl, Lib.hid ⟨V.1, V.2.1, V.2.2.1, V.2.2.2.1, V.2.2.2.2.1, fun _ => rfl, V.2.2.2.2.2.2.1, V.2.2.2.2.2.2.2.1, fun _ => rfl, fun _ => rfl, V10.1, V10.2.1, V10.2.2.1, V10.2.2.2.1, V10.2.2.2.2.1, V10.2.2.2.2.2.1, V10.2.2.2.2.2.2.1, V10.2.2.2.2.2.2.2.1, V10.2.2.2.2.2.2.2.2.1, V10.2.2.2.2.2.2.2.2.2⟩, HW⟩
            · rintro b a wy hb hd ⟨z, rfl, HV, HW⟩ K hK
              simp [Region.binds] at hd
              have e9 : (z 78) = .bool false := (HV.out.2.2.2.2.2.2.2.2.2.1) (by simp [hd])
              clear hd
              go_simp
              have V := HV.out
              have V10 := V.2.2.2.2.2.2.2.2.2.2
              exact hK _ _ ⟨fun s => if s = 79 then .bool false else if s = 78 then .bool false else z s, rfl, Lib.hid ⟨V.1, V.2.1, V.2.2.1, V.2.2.2.1, V.2.2.2.2.1, V.2.2.2.2.2.1, V.2.2.2.2.2.2.1, V.2.2.2.2.2.2.2.1, V.2.2.2.2.2.2.2.2.1, fun _ => rfl, fun _ => rfl, V10.2.1, V10.2.2.1, V10.2.2.2.1, V10.2.2.2.2.1, V10.2.2.2.2.2.1, V10.2.2.2.2.2.2.1, V10.2.2.2.2.2.2.2.1, V10.2.2.2.2.2.2.2.2.1, V10.2.2.2.2.2.2.2.2.2⟩, HW⟩
            · rintro b a wy hb hd ⟨z, rfl, HV, HW⟩ K hK
              simp [Region.binds] at hd
              have e10 : (z 79) = .bool false := (HV.out.2.2.2.2.2.2.2.2.2.2.1) (by simp [hd])
              clear hd
              go_simp
              have V := HV.out
              have V10 := V.2.2.2.2.2.2.2.2.2.2
              exact hK _ _ ⟨fun s => if s = 80 then Value.bool a2 else if s = 79 then .bool false else z s, rfl, Lib.hid ⟨V.1, V.2.1, V.2.2.1, V.2.2.2.1, V.2.2.2.2.1, V.2.2.2.2.2.1, V.2.2.2.2.2.2.1, V.2.2.2.2.2.2.2.1, V.2.2.2.2.2.2.2.2.1, V.2.2.2.2.2.2.2.2.2.1, fun _ => rfl, fun _ => rfl, V10.2.2.1, V10.2.2.2.1, V10.2.2.2.2.1, V10.2.2.2.2.2.1, V10.2.2.2.2.2.2.1, V10.2.2.2.2.2.2.2.1, V10.2.2.2.2.2.2.2.2.1, V10.2.2.2.2.2.2.2.2.2⟩, HW⟩
            · rintro b a wy hb hd ⟨z, rfl, HV, HW⟩ K hK
              simp [Region.binds] at hd
              have e10 : (z 79) = .bool false := (HV.out.2.2.2.2.2.2.2.2.2.2.1) (by simp [hd])
              clear hd
              go_simp
              have V := HV.out
              have V10 := V.2.2.2.2.2.2.2.2.2.2
              exact hK _ _ ⟨fun s => if s = 81 then Value.bool a2 else if s = 79 then .bool false else z s, rfl, Lib.hid ⟨V.1, V.2.1, V.2.2.1, V.2.2.2.1, V.2.2.2.2.1, V.2.2.2.2.2.1, V.2.2.2.2.2.2.1, V.2.2.2.2.2.2.2.1, V.2.2.2.2.2.2.2.2.1, V.2.2.2.2.2.2.2.2.2.1, fun _ => rfl, V10.2.1, fun _ => rfl, V10.2.2.2.1, V10.2.2.2.2.1, V10.2.2.2.2.2.1, V10.2.2.2.2.2.2.1, V10.2.2.2.2.2.2.2.1, V10.2.2.2.2.2.2.2.2.1, V10.2.2.2.2.2.2.2.2.2⟩, HW⟩
            · rintro b a wy hb hd ⟨z, rfl, HV, HW⟩ K hK
              simp [Region.binds] at hd
              have e10 : (z 79) = .bool false := (HV.out.2.2.2.2.2.2.2.2.2.2.1) (by simp [hd])
              have e11 : (z 80) = Value.bool a2 := (HV.out.2.2.2.2.2.2.2.2.2.2.2.1) (by simp [hd])
              have e12 : (z 81) = Value.bool a2 := (HV.out.2.2.2.2.2.2.2.2.2.2.2.2.1) (by simp [hd])
              clear hd
              go_simp
              have V := HV.out
              have V10 := V.2.2.2.2.2.2.2.2.2.2
              exact hK _ _ ⟨fun s => if s = 82 then .bool false else if s = 79 then .bool false else if s = 80 then Value.bool a2 else if s = 81 then Value.bool a2 else z s, rfl, Lib.hid ⟨V.1, V.2.1, V.2.2.1, V.2.2.2.1, V.2.2.2.2.1, V.2.2.2.2.2.1, V.2.2.2.2.2.2.1, V.2.2.2.2.2.2.2.1, V.2.2.2.2.2.2.2.2.1, V.2.2.2.2.2.2.2.2.2.1, fun _ => rfl, fun _ => rfl, fun _ => rfl, fun _ => by simp, V10.2.2.2.2.1, V10.2.2.2.2.2.1, V10.2.2.2.2.2.2.1, V10.2.2.2.2.2.2.2.1, V10.2.2.2.2.2.2.2.2.1, V10.2.2.2.2.2.2.2.2.2⟩, HW⟩
            · rintro b a wy hb hd ⟨z, rfl, HV, HW⟩ K hK
              simp [Region.binds] at hd
              have e10 : (z 79) = .bool false := (HV.out.2.2.2.2.2.2.2.2.2.2.1) (by simp [hd])
              have e13 : (z 82) = .bool false := (HV.out.2.2.2.2.2.2.2.2.2.2.2.2.2.1) (by simp [hd])
              clear hd
              go_simp
              have V := HV.out
              have V10 := V.2.2.2.2.2.2.2.2.2.2
              exact hK _ _ ⟨fun s => if s = 83 then .bool false else if s = 79 then .bool false else if s = 82 then .bool false else z s, rfl, Lib.hid ⟨V.1, V.2.1, V.2.2.1, V.2.2.2.1, V.2.2.2.2.1, V.2.2.2.2.2.1, V.2.2.2.2.2.2.1, V.2.2.2.2.2.2.2.1, V.2.2.2.2.2.2.2.2.1, V.2.2.2.2.2.2.2.2.2.1, fun _ => rfl, V10.2.1, V10.2.2.1, fun _ => rfl, fun _ => rfl, V10.2.2.2.2.2.1, V10.2.2.2.2.2.2.1, V10.2.2.2.2.2.2.2.1, V10.2.2.2.2.2.2.2.2.1, V10.2.2.2.2.2.2.2.2.2⟩, HW⟩
            · rintro b a wy hb hd ⟨z, rfl, HV, HW⟩ K hK
              simp [Region.binds] at hd
              have e14 : (z 83) = .bool false := (HV.out.2.2.2.2.2.2.2.2.2.2.2.2.2.2.1) (by simp [hd])
              clear hd
              go_simp
              have V := HV.out
              have V10 := V.2.2.2.2.2.2.2.2.2.2
              exact hK _ _ ⟨fun s => if s = 84 then .bool false else if s = 83 then .bool false else z s, rfl, Lib.hid ⟨V.1, V.2.1, V.2.2.1, V.2.2.2.1, V.2.2.2.2.1, V.2.2.2.2.2.1, V.2.2.2.2.2.2.1, V.2.2.2.2.2.2.2.1, V.2.2.2.2.2.2.2.2.1, V.2.2.2.2.2.2.2.2.2.1, V10.1, V10.2.1, V10.2.2.1, V10.2.2.2.1, fun _ => rfl, fun _ => rfl, V10.2.2.2.2.2.2.1, V10.2.2.2.2.2.2.2.1, V10.2.2.2.2.2.2.2.2.1, V10.2.2.2.2.2.2.2.2.2⟩, HW⟩
            · rintro b a wy hb hd ⟨z, rfl, HV, HW⟩ K hK
              simp [Region.binds] at hd
              have e15 : (z 84) = .bool false := (HV.out.2.2.2.2.2.2.2.2.2.2.2.2.2.2.2.1) (by simp [hd])
              clear hd
              go_simp
              have V := HV.out
              have V10 := V.2.2.2.2.2.2.2.2.2.2
              exact hK _ _ ⟨fun s => if s = 85 then Value.int IntKind.i64 (a3 : Int) else if s = 84 then .bool false else z s, rfl, Lib.hid ⟨V.1, V.2.1, V.2.2.1, V.2.2.2.1, V.2.2.2.2.1, V.2.2.2.2.2.1, V.2.2.2.2.2.2.1, V.2.2.2.2.2.2.2.1, V.2.2.2.2.2.2.2.2.1, V.2.2.2.2.2.2.2.2.2.1, V10.1, V10.2.1, V10.2.2.1, V10.2.2.2.1, V10.2.2.2.2.1, fun _ => rfl, fun _ => rfl, V10.2.2.2.2.2.2.2.1, V10.2.2.2.2.2.2.2.2.1, V10.2.2.2.2.2.2.2.2.2⟩, HW⟩
            · rintro b a wy hb hd ⟨z, rfl, HV, HW⟩ K hK
              simp [Region.binds] at hd
              have e15 : (z 84) = .bool false := (HV.out.2.2.2.2.2.2.2.2.2.2.2.2.2.2.2.1) (by simp [hd])
              clear hd
              go_simp
              have V := HV.out
              have V10 := V.2.2.2.2.2.2.2.2.2.2
              exact hK _ _ ⟨fun s => if s = 86 then Value.int IntKind.i64 (a3 : Int) else if s = 84 then .bool false else z s, rfl, Lib.hid ⟨V.1, V.2.1, V.2.2.1, V.2.2.2.1, V.2.2.2.2.1, V.2.2.2.2.2.1, V.2.2.2.2.2.2.1, V.2.2.2.2.2.2.2.1, V.2.2.2.2.2.2.2.2.1, V.2.2.2.2.2.2.2.2.2.1, V10.1, V10.2.1, V10.2.2.1, V10.2.2.2.1, V10.2.2.2.2.1, fun _ => rfl, V10.2.2.2.2.2.2.1, fun _ => rfl, V10.2.2.2.2.2.2.2.2.1, V10.2.2.2.2.2.2.2.2.2⟩, HW⟩
            · rintro b a wy hb hd ⟨z, rfl, HV, HW⟩ K hK
              simp [Region.binds] at hd
              have e15 : (z 84) = .bool false := (HV.out.2.2.2.2.2.2.2.2.2.2.2.2.2.2.2.1) (by simp [hd])
              have e16 : (z 85) = Value.int IntKind.i64 (a3 : Int) := (HV.out.2.2.2.2.2.2.2.2.2.2.2.2.2.2.2.2.1) (by simp [hd])
              have e17 : (z 86) = Value.int IntKind.i64 (a3 : Int) := (HV.out.2.2.2.2.2.2.2.2.2.2.2.2.2.2.2.2.2.1) (by simp [hd])
              clear hd
              go_simp
              have V := HV.out
              have V10 := V.2.2.2.2.2.2.2.2.2.2
              exact hK _ _ ⟨fun s => if s = 87 then .bool false else if s = 84 then .bool false else if s = 85 then Value.int IntKind.i64 (a3 : Int) else if s = 86 then Value.int IntKind.i64 (a3 : Int) else z s, rfl, Lib.hid ⟨V.1, V.2.1, V.2.2.1, V.2.2.2.1, V.2.2.2.2.1, V.2.2.2.2.2.1, V.2.2.2.2.2.2.1, V.2.2.2.2.2.2.2.1, V.2.2.2.2.2.2.2.2.1, V.2.2.2.2.2.2.2.2.2.1, V10.1, V10.2.1, V10.2.2.1, V10.2.2.2.1, V10.2.2.2.2.1, fun _ => rfl, fun _ => rfl, fun _ => rfl, fun _ => by simp, V10.2.2.2.2.2.2.2.2.2⟩, HW⟩
            · rintro b a wy hb hd ⟨z, rfl, HV, HW⟩ K hK
              simp [Region.binds] at hd
              have e15 : (z 84) = .bool false := (HV.out.2.2.2.2.2.2.2.2.2.2.2.2.2.2.2.1) (by simp [hd])
              have e18 : (z 87) = .bool false := (HV.out.2.2.2.2.2.2.2.2.2.2.2.2.2.2.2.2.2.2.1) (by simp [hd])
              clear hd
              go_simp
              have V := HV.out
              have V10 := V.2.2.2.2.2.2.2.2.2.2
              exact hK _ _ ⟨fun s => if s = 88 then .bool false else if s = 84 then .bool false else if s = 87 then .bool false else z s, rfl, Lib.hid ⟨V.1, V.2.1, V.2.2.1, V.2.2.2.1, V.2.2.2.2.1, V.2.2.2.2.2.1, V.2.2.2.2.2.2.1, V.2.2.2.2.2.2.2.1, V.2.2.2.2.2.2.2.2.1, V.2.2.2.2.2.2.2.2.2.1, V10.1, V10.2.1, V10.2.2.1, V10.2.2.2.1, V10.2.2.2.2.1, fun _ => rfl, V10.2.2.2.2.2.2.1, V10.2.2.2.2.2.2.2.1, fun _ => rfl, fun _ => rfl⟩, HW⟩
          case doneD =>
            rintro b a w4 hb ⟨z, rfl, HV, HW⟩
            have e0 := (HV.out.1) (hb 0)
            have e1 := (HV.out.2.1) (hb 1)
            have e2 := (HV.out.2.2.1) (hb 2)
            have e3 := (HV.out.2.2.2.1) (hb 3)
            have e4 := (HV.out.2.2.2.2.1) (hb 4)
            have e5 := (HV.out.2.2.2.2.2.1) (hb 5)
            have e6 := (HV.out.2.2.2.2.2.2.1) (hb 6)
            have e7 := (HV.out.2.2.2.2.2.2.2.1) (hb 7)
            have e8 := (HV.out.2.2.2.2.2.2.2.2.1) (hb 8)
            have e9 := (HV.out.2.2.2.2.2.2.2.2.2.1) (hb 9)
            have e10 := (HV.out.2.2.2.2.2.2.2.2.2.2.1) (hb 10)
            have e11 := (HV.out.2.2.2.2.2.2.2.2.2.2.2.1) (hb 11)
            have e12 := (HV.out.2.2.2.2.2.2.2.2.2.2.2.2.1) (hb 12)
            have e13 := (HV.out.2.2.2.2.2.2.2.2.2.2.2.2.2.1) (hb 13)
            have e14 := (HV.out.2.2.2.2.2.2.2.2.2.2.2.2.2.2.1) (hb 14)
            have e15 := (HV.out.2.2.2.2.2.2.2.2.2.2.2.2.2.2.2.1) (hb 15)
            have e16 := (HV.out.2.2.2.2.2.2.2.2.2.2.2.2.2.2.2.2.1) (hb 16)
            have e17 := (HV.out.2.2.2.2.2.2.2.2.2.2.2.2.2.2.2.2.2.1) (hb 17)
            have e18 := (HV.out.2.2.2.2.2.2.2.2.2.2.2.2.2.2.2.2.2.2.1) (hb 18)
            have e19 := (HV.out.2.2.2.2.2.2.2.2.2.2.2.2.2.2.2.2.2.2.2) (hb 19)
            simp only [e0, e1, e2, e3, e4, e5, e6, e7, e8, e9, e10, e11, e12, e13, e14, e15, e16, e17, e18, e19]
            clear HV hb e0 e1 e2 e3 e4 e5 e6 e7 e8 e9 e10 e11 e12 e13 e14 e15 e16 e17 e18 e19
            have kz := HW.out
            clear HW
            replace XN := Lib.hid (XN.out.below XN.out.lt kz)
            replace YN := Lib.hid (YN.out.below YN.out.lt kz)
            replace NN := Lib.hid (NN.out.below kz)
            replace MM := Lib.hid (MM.out.below kz)
            replace HB := Lib.hid (HB.out.trans (kz.mono HB.out.size))
            clear kz
            obtain ⟨⟨⟨l1, k1, v1⟩, p2, p3⟩, htp⟩ : ∃ q, q = putR l ks vs k x := ⟨_, rfl⟩
            have HTP := Lib.hid htp
            clear htp
            go_wp2_with (first | (refine wpList_load_d rfl (.tmp 4) rfl w.heap.size _ rfl XN.out ?_))
            refine (put_any l NN.out k x _ HTP.out).mono ?_
            rintro e w5 ⟨v, rfl, ow, kz⟩
            replace XN := Lib.hid (XN.out.below XN.out.lt kz)
            replace YN := Lib.hid (YN.out.below YN.out.lt kz)
            replace NN := Lib.hid (NN.out.below kz)
            replace MM := Lib.hid (MM.out.below kz)
            replace HB := Lib.hid (HB.out.trans (kz.mono HB.out.size))
            clear kz
            obtain ⟨Ap1, np1, cp1, Bp1, mp1, dp1, rfl, Np1⟩ := ow.pn
            replace Np1 := Lib.hid Np1
            clear ow
            go_upto_region 8 with (fail)
            have kz0 := Below.refl w5.heap.size w5
            have XP0 := box_new (w5) l1 Ap1 np1 cp1 Bp1 mp1 dp1
            have kz1 := kz0.alloc kz0.size (.cells #[.bool l1, .slice Ap1 np1 cp1, .slice Bp1 mp1 dp1] 24)
            have XP := Lib.hid XP0
            clear XP0
            have kz := kz1
            clear kz0 kz1
            obtain ⟨rp1, hrp1⟩ : ∃ r, r = w5.heap.size := ⟨_, rfl⟩
            generalize (w5).alloc (.cells #[.bool l1, .slice Ap1 np1 cp1, .slice Bp1 mp1 dp1] 24) = w6 at *
            replace XN := Lib.hid (XN.out.below XN.out.lt kz)
            replace YN := Lib.hid (YN.out.below YN.out.lt kz)
            replace NN := Lib.hid (NN.out.below kz)
            replace MM := Lib.hid (MM.out.below kz)
            replace Np1 := Lib.hid (Np1.out.below kz)
            replace HB := Lib.hid (HB.out.trans (kz.mono HB.out.size))
            try rw [← hrp1]
            rw [← hrp1] at XP
            clear kz hrp1
            go_wp2_with (first | (refine wpList_load_d rfl (.tmp 4) rfl w.heap.size _ rfl XN.out ?_))
            refine (rput_any l NN.out k x _ HTP.out).mono ?_
            rintro e w7 ⟨v, rfl, ow, kz⟩
            replace XN := Lib.hid (XN.out.below XN.out.lt kz)
            replace YN := Lib.hid (YN.out.below YN.out.lt kz)
            replace NN := Lib.hid (NN.out.below kz)
            replace MM := Lib.hid (MM.out.below kz)
            replace Np1 := Lib.hid (Np1.out.below kz)
            replace XP := Lib.hid (XP.out.below XP.out.lt kz)
            replace HB := Lib.hid (HB.out.trans (kz.mono HB.out.size))
            clear kz
            obtain ⟨Aq1, nq1, cq1, Bq1, mq1, dq1, rfl, Nq1⟩ := ow.pn
            replace Nq1 := Lib.hid Nq1
            clear ow
            go_upto_region 9 with (fail)
            have kz0 := Below.refl w7.heap.size w7
            have XQ0 := box_new (w7) l1 Aq1 nq1 cq1 Bq1 mq1 dq1
            have kz1 := kz0.alloc kz0.size (.cells #[.bool l1, .slice Aq1 nq1 cq1, .slice Bq1 mq1 dq1] 24)
            have XQ := Lib.hid XQ0
            clear XQ0
            have kz := kz1
            clear kz0 kz1
            obtain ⟨rq1, hrq1⟩ : ∃ r, r = w7.heap.size := ⟨_, rfl⟩
            generalize (w7).alloc (.cells #[.bool l1, .slice Aq1 nq1 cq1, .slice Bq1 mq1 dq1] 24) = w8 at *
            replace XN := Lib.hid (XN.out.below XN.out.lt kz)
            replace YN := Lib.hid (YN.out.below YN.out.lt kz)
            replace NN := Lib.hid (NN.out.below kz)
            replace MM := Lib.hid (MM.out.below kz)
            replace Np1 := Lib.hid (Np1.out.below kz)
            replace XP := Lib.hid (XP.out.below XP.out.lt kz)
            replace Nq1 := Lib.hid (Nq1.out.below kz)
            replace HB := Lib.hid (HB.out.trans (kz.mono HB.out.size))
            try rw [← hrq1]
            rw [← hrq1] at XQ
            clear kz hrq1
            go_wp2_with (first | (refine wpList_load_d rfl (.tmp 15) rfl rp1 _ rfl XP.out ?_) | (refine wpList_load_d rfl (.tmp 16) rfl rq1 _ rfl XQ.out ?_))
            refine (same_yes l1 Np1.out Nq1.out).mono ?_
            rintro e w9 ⟨rfl, kz⟩
            replace XN := Lib.hid (XN.out.below XN.out.lt kz)
            replace YN := Lib.hid (YN.out.below YN.out.lt kz)
            replace NN := Lib.hid (NN.out.below kz)
            replace MM := Lib.hid (MM.out.below kz)
            replace Np1 := Lib.hid (Np1.out.below kz)
            replace XP := Lib.hid (XP.out.below XP.out.lt kz)
            replace Nq1 := Lib.hid (Nq1.out.below kz)
            replace XQ := Lib.hid (XQ.out.below XQ.out.lt kz)
            replace HB := Lib.hid (HB.out.trans (kz.mono HB.out.size))
            clear kz
            clear XP XQ Np1 Nq1 HTP
            obtain ⟨⟨⟨l2, k2, v2⟩, t2, t3⟩, htt⟩ : ∃ q, q = takeR l ks vs k := ⟨_, rfl⟩
            have HTT := Lib.hid htt
            clear htt
            go_wp2_with (first | (refine wpList_load_d rfl (.tmp 4) rfl w.heap.size _ rfl XN.out ?_))
            refine (take_any l NN.out k _ HTT.out).mono ?_
            rintro e w10 ⟨v, rfl, ow, kz⟩
            replace XN := Lib.hid (XN.out.below XN.out.lt kz)
            replace YN := Lib.hid (YN.out.below YN.out.lt kz)
            replace NN := Lib.hid (NN.out.below kz)
            replace MM := Lib.hid (MM.out.below kz)
            replace HB := Lib.hid (HB.out.trans (kz.mono HB.out.size))
            clear kz
            obtain ⟨Ap2, np2, cp2, Bp2, mp2, dp2, rfl, Np2⟩ := ow.pn
            replace Np2 := Lib.hid Np2
            clear ow
            go_upto_region 12 with (fail)
            have kz0 := Below.refl w10.heap.size w10
            have XP0 := box_new (w10) l2 Ap2 np2 cp2 Bp2 mp2 dp2
            have kz1 := kz0.alloc kz0.size (.cells #[.bool l2, .slice Ap2 np2 cp2, .slice Bp2 mp2 dp2] 24)
            have XP := Lib.hid XP0
            clear XP0
            have kz := kz1
            clear kz0 kz1
            obtain ⟨rp2, hrp2⟩ : ∃ r, r = w10.heap.size := ⟨_, rfl⟩
            generalize (w10).alloc (.cells #[.bool l2, .slice Ap2 np2 cp2, .slice Bp2 mp2 dp2] 24) = w11 at *
            replace XN := Lib.hid (XN.out.below XN.out.lt kz)
            replace YN := Lib.hid (YN.out.below YN.out.lt kz)
            replace NN := Lib.hid (NN.out.below kz)
            replace MM := Lib.hid (MM.out.below kz)
            replace Np2 := Lib.hid (Np2.out.below kz)
            replace HB := Lib.hid (HB.out.trans (kz.mono HB.out.size))
            try rw [← hrp2]
            rw [← hrp2] at XP
            clear kz hrp2
            go_wp2_with (first | (refine wpList_load_d rfl (.tmp 4) rfl w.heap.size _ rfl XN.out ?_))
            refine (rtake_any l NN.out k _ HTT.out).mono ?_
            rintro e w12 ⟨v, rfl, ow, kz⟩
            replace XN := Lib.hid (XN.out.below XN.out.lt kz)
            replace YN := Lib.hid (YN.out.below YN.out.lt kz)
            replace NN := Lib.hid (NN.out.below kz)
            replace MM := Lib.hid (MM.out.below kz)
            replace Np2 := Lib.hid (Np2.out.below kz)
            replace XP := Lib.hid (XP.out.below XP.out.lt kz)
            replace HB := Lib.hid (HB.out.trans (kz.mono HB.out.size))
            clear kz
            obtain ⟨Aq2, nq2, cq2, Bq2, mq2, dq2, rfl, Nq2⟩ := ow.pn
            replace Nq2 := Lib.hid Nq2
            clear ow
            go_upto_region 13 with (fail)
            have kz0 := Below.refl w12.heap.size w12
            have XQ0 := box_new (w12) l2 Aq2 nq2 cq2 Bq2 mq2 dq2
            have kz1 := kz0.alloc kz0.size (.cells #[.bool l2, .slice Aq2 nq2 cq2, .slice Bq2 mq2 dq2] 24)
            have XQ := Lib.hid XQ0
            clear XQ0
            have kz := kz1
            clear kz0 kz1
            obtain ⟨rq2, hrq2⟩ : ∃ r, r = w12.heap.size := ⟨_, rfl⟩
            generalize (w12).alloc (.cells #[.bool l2, .slice Aq2 nq2 cq2, .slice Bq2 mq2 dq2] 24) = w13 at *
            replace XN := Lib.hid (XN.out.below XN.out.lt kz)
            replace YN := Lib.hid (YN.out.below YN.out.lt kz)
            replace NN := Lib.hid (NN.out.below kz)
            replace MM := Lib.hid (MM.out.below kz)
            replace Np2 := Lib.hid (Np2.out.below kz)
            replace XP := Lib.hid (XP.out.below XP.out.lt kz)
            replace Nq2 := Lib.hid (Nq2.out.below kz)
            replace HB := Lib.hid (HB.out.trans (kz.mono HB.out.size))
            try rw [← hrq2]
            rw [← hrq2] at XQ
            clear kz hrq2
            go_wp2_with (first | (refine wpList_load_d rfl (.tmp 17) rfl rp2 _ rfl XP.out ?_) | (refine wpList_load_d rfl (.tmp 19) rfl rq2 _ rfl XQ.out ?_))
            refine (same_yes l2 Np2.out Nq2.out).mono ?_
            rintro e w14 ⟨rfl, kz⟩
            replace XN := Lib.hid (XN.out.below XN.out.lt kz)
            replace YN := Lib.hid (YN.out.below YN.out.lt kz)
            replace NN := Lib.hid (NN.out.below kz)
            replace MM := Lib.hid (MM.out.below kz)
            replace Np2 := Lib.hid (Np2.out.below kz)
            replace XP := Lib.hid (XP.out.below XP.out.lt kz)
            replace Nq2 := Lib.hid (Nq2.out.below kz)
            replace XQ := Lib.hid (XQ.out.below XQ.out.lt kz)
            replace HB := Lib.hid (HB.out.trans (kz.mono HB.out.size))
            clear kz
            clear XP XQ Np2 Nq2 HTT
            obtain ⟨⟨⟨l3, k3, v3⟩, ⟨l4, k4, v4⟩, s3⟩, hts⟩ : ∃ q, q = splitR l ks vs := ⟨_, rfl⟩
            have HTS := Lib.hid hts
            clear hts
            go_wp2_with (first | (refine wpList_load_d rfl (.tmp 4) rfl w.heap.size _ rfl XN.out ?_))
            refine (split_any l NN.out _ HTS.out).mono ?_
            rintro e w15 ⟨u, v, rfl, ow, ow2, kz⟩
            replace XN := Lib.hid (XN.out.below XN.out.lt kz)
            replace YN := Lib.hid (YN.out.below YN.out.lt kz)
            replace NN := Lib.hid (NN.out.below kz)
            replace MM := Lib.hid (MM.out.below kz)
            replace HB := Lib.hid (HB.out.trans (kz.mono HB.out.size))
            clear kz
            obtain ⟨Ap3, np3, cp3, Bp3, mp3, dp3, rfl, Np3⟩ := ow.pn
            replace Np3 := Lib.hid Np3
            clear ow
            obtain ⟨Aq3, nq3, cq3, Bq3, mq3, dq3, rfl, Nq3⟩ := ow2.pn
            replace Nq3 := Lib.hid Nq3
            clear ow2
            go_upto_region 16 with (fail)
            have kz0 := Below.refl w15.heap.size w15
            have XP0 := box_new (w15) l3 Ap3 np3 cp3 Bp3 mp3 dp3
            have kz1 := kz0.alloc kz0.size (.cells #[.bool l3, .slice Ap3 np3 cp3, .slice Bp3 mp3 dp3] 24)
            have XQ0 := box_new ((w15).alloc (.cells #[.bool l3, .slice Ap3 np3 cp3, .slice Bp3 mp3 dp3] 24)) l4 Aq3 nq3 cq3 Bq3 mq3 dq3
            rw [show ((w15).alloc (.cells #[.bool l3, .slice Ap3 np3 cp3, .slice Bp3 mp3 dp3] 24)).heap.size = w15.heap.size + 1 by simp] at XQ0
            have kz2 := kz1.alloc kz1.size (.cells #[.bool l4, .slice Aq3 nq3 cq3, .slice Bq3 mq3 dq3] 24)
            replace XP0 := XP0.new (.cells #[.bool l4, .slice Aq3 nq3 cq3, .slice Bq3 mq3 dq3] 24)
            have XP := Lib.hid XP0
            clear XP0
            have XQ := Lib.hid XQ0
            clear XQ0
            have kz := kz2
            clear kz0 kz1 kz2
            obtain ⟨rp3, hrp3⟩ : ∃ r, r = w15.heap.size := ⟨_, rfl⟩
            obtain ⟨rq3, hrq3⟩ : ∃ r, r = w15.heap.size + 1 := ⟨_, rfl⟩
            generalize ((w15).alloc (.cells #[.bool l3, .slice Ap3 np3 cp3, .slice Bp3 mp3 dp3] 24)).alloc (.cells #[.bool l4, .slice Aq3 nq3 cq3, .slice Bq3 mq3 dq3] 24) = w16 at *
            replace XN := Lib.hid (XN.out.below XN.out.lt kz)
            replace YN := Lib.hid (YN.out.below YN.out.lt kz)
            replace NN := Lib.hid (NN.out.below kz)
            replace MM := Lib.hid (MM.out.below kz)
            replace Np3 := Lib.hid (Np3.out.below kz)
            replace Nq3 := Lib.hid (Nq3.out.below kz)
            replace HB := Lib.hid (HB.out.trans (kz.mono HB.out.size))
            try rw [← hrq3]
            rw [← hrq3] at XQ
            try rw [← hrp3]
            rw [← hrp3] at XP
            clear kz hrp3 hrq3
            go_wp2_with (first | (refine wpList_load_d rfl (.tmp 4) rfl w.heap.size _ rfl XN.out ?_))
            refine (rsplit_any l NN.out _ HTS.out).mono ?_
            rintro e w17 ⟨u, v, rfl, ow, ow2, kz⟩
            replace XN := Lib.hid (XN.out.below XN.out.lt kz)
            replace YN := Lib.hid (YN.out.below YN.out.lt kz)
            replace NN := Lib.hid (NN.out.below kz)
            replace MM := Lib.hid (MM.out.below kz)
            replace Np3 := Lib.hid (Np3.out.below kz)
            replace Nq3 := Lib.hid (Nq3.out.below kz)
            replace XP := Lib.hid (XP.out.below XP.out.lt kz)
            replace XQ := Lib.hid (XQ.out.below XQ.out.lt kz)
            replace HB := Lib.hid (HB.out.trans (kz.mono HB.out.size))
            clear kz
            obtain ⟨Ar3, nr3, cr3, Br3, mr3, dr3, rfl, Nr3⟩ := ow.pn
            replace Nr3 := Lib.hid Nr3
            clear ow
            obtain ⟨As3, ns3, cs3, Bs3, ms3, ds3, rfl, Ns3⟩ := ow2.pn
            replace Ns3 := Lib.hid Ns3
            clear ow2
            go_upto_region 17 with (fail)
            have kz0 := Below.refl w17.heap.size w17
            have XR0 := box_new (w17) l3 Ar3 nr3 cr3 Br3 mr3 dr3
            have kz1 := kz0.alloc kz0.size (.cells #[.bool l3, .slice Ar3 nr3 cr3, .slice Br3 mr3 dr3] 24)
            have XS0 := box_new ((w17).alloc (.cells #[.bool l3, .slice Ar3 nr3 cr3, .slice Br3 mr3 dr3] 24)) l4 As3 ns3 cs3 Bs3 ms3 ds3
            rw [show ((w17).alloc (.cells #[.bool l3, .slice Ar3 nr3 cr3, .slice Br3 mr3 dr3] 24)).heap.size = w17.heap.size + 1 by simp] at XS0
            have kz2 := kz1.alloc kz1.size (.cells #[.bool l4, .slice As3 ns3 cs3, .slice Bs3 ms3 ds3] 24)
            replace XR0 := XR0.new (.cells #[.bool l4, .slice As3 ns3 cs3, .slice Bs3 ms3 ds3] 24)
            have XR := Lib.hid XR0
            clear XR0
            have XS := Lib.hid XS0
            clear XS0
            have kz := kz2
            clear kz0 kz1 kz2
            obtain ⟨rr3, hrr3⟩ : ∃ r, r = w17.heap.size := ⟨_, rfl⟩
            obtain ⟨rs3, hrs3⟩ : ∃ r, r = w17.heap.size + 1 := ⟨_, rfl⟩
            generalize ((w17).alloc (.cells #[.bool l3, .slice Ar3 nr3 cr3, .slice Br3 mr3 dr3] 24)).alloc (.cells #[.bool l4, .slice As3 ns3 cs3, .slice Bs3 ms3 ds3] 24) = w18 at *
            replace XN := Lib.hid (XN.out.below XN.out.lt kz)
            replace YN := Lib.hid (YN.out.below YN.out.lt kz)
            replace NN := Lib.hid (NN.out.below kz)
            replace MM := Lib.hid (MM.out.below kz)
            replace Np3 := Lib.hid (Np3.out.below kz)
            replace Nq3 := Lib.hid (Nq3.out.below kz)
            replace XP := Lib.hid (XP.out.below XP.out.lt kz)
            replace XQ := Lib.hid (XQ.out.below XQ.out.lt kz)
            replace Nr3 := Lib.hid (Nr3.out.below kz)
            replace Ns3 := Lib.hid (Ns3.out.below kz)
            replace HB := Lib.hid (HB.out.trans (kz.mono HB.out.size))
            try rw [← hrs3]
            rw [← hrs3] at XS
            try rw [← hrr3]
            rw [← hrr3] at XR
            clear kz hrr3 hrs3
            go_wp2_with (first | (refine wpList_load_d rfl (.tmp 21) rfl rp3 _ rfl XP.out ?_) | (refine wpList_load_d rfl (.tmp 23) rfl rr3 _ rfl XR.out ?_))
            refine (same_yes l3 Np3.out Nr3.out).mono ?_
            rintro e w19 ⟨rfl, kz⟩
            replace XN := Lib.hid (XN.out.below XN.out.lt kz)
            replace YN := Lib.hid (YN.out.below YN.out.lt kz)
            replace NN := Lib.hid (NN.out.below kz)
            replace MM := Lib.hid (MM.out.below kz)
            replace Np3 := Lib.hid (Np3.out.below kz)
            replace Nq3 := Lib.hid (Nq3.out.below kz)
            replace XP := Lib.hid (XP.out.below XP.out.lt kz)
            replace XQ := Lib.hid (XQ.out.below XQ.out.lt kz)
            replace Nr3 := Lib.hid (Nr3.out.below kz)
            replace Ns3 := Lib.hid (Ns3.out.below kz)
            replace XR := Lib.hid (XR.out.below XR.out.lt kz)
            replace XS := Lib.hid (XS.out.below XS.out.lt kz)
            replace HB := Lib.hid (HB.out.trans (kz.mono HB.out.size))
            clear kz
            have zq0 := XQ.out.of.cellAt (i := 0) rfl
            have zs0 := XS.out.of.cellAt (i := 0) rfl
            have zq1 := XQ.out.of.cellAt (i := 1) rfl
            have zs1 := XS.out.of.cellAt (i := 1) rfl
            have zq2 := XQ.out.of.cellAt (i := 2) rfl
            have zs2 := XS.out.of.cellAt (i := 2) rfl
            go_wp2_with fail
            clear zq0 zq1 zq2 zs0 zs1 zs2
            refine (same_yes l4 Nq3.out Ns3.out).mono ?_
            rintro e w20 ⟨rfl, kz⟩
            replace XN := Lib.hid (XN.out.below XN.out.lt kz)
            replace YN := Lib.hid (YN.out.below YN.out.lt kz)
            replace NN := Lib.hid (NN.out.below kz)
            replace MM := Lib.hid (MM.out.below kz)
            replace Np3 := Lib.hid (Np3.out.below kz)
            replace Nq3 := Lib.hid (Nq3.out.below kz)
            replace XP := Lib.hid (XP.out.below XP.out.lt kz)
            replace XQ := Lib.hid (XQ.out.below XQ.out.lt kz)
            replace Nr3 := Lib.hid (Nr3.out.below kz)
            replace Ns3 := Lib.hid (Ns3.out.below kz)
            replace XR := Lib.hid (XR.out.below XR.out.lt kz)
            replace XS := Lib.hid (XS.out.below XS.out.lt kz)
            replace HB := Lib.hid (HB.out.trans (kz.mono HB.out.size))
            clear kz
            clear XP XQ XR XS Np3 Nq3 Nr3 Ns3 HTS
            obtain ⟨⟨L, j2⟩, htj⟩ : ∃ q, q = joinR l ks vs l' ks' vs' := ⟨_, rfl⟩
            have HTJ := Lib.hid htj
            clear htj
            obtain ⟨N, hN⟩ : ∃ q, L.length = q := ⟨_, rfl⟩
            have HLN := Lib.hid hN
            have hN2 : N ≤ 2 := by have h9 := joinR_few l ks vs l' ks' vs'; rw [← HTJ.out] at h9; exact hN ▸ h9
            clear hN
            go_wp2_with (first | (refine wpList_load_d rfl (.tmp 4) rfl w.heap.size _ rfl XN.out ?_) | (refine wpList_load_d rfl (.tmp 5) rfl (w.heap.size + 1) _ rfl YN.out ?_))
            refine (join_any l l' NN.out MM.out _ HTJ.out).mono ?_
            rintro e w21 ⟨v, rfl, Lp, kz⟩
            replace XN := Lib.hid (XN.out.below XN.out.lt kz)
            replace YN := Lib.hid (YN.out.below YN.out.lt kz)
            replace NN := Lib.hid (NN.out.below kz)
            replace MM := Lib.hid (MM.out.below kz)
            replace HB := Lib.hid (HB.out.trans (kz.mono HB.out.size))
            clear kz
            obtain ⟨gp, rfl⟩ := Lp.len HLN.out
            replace Lp := Lib.hid Lp
            go_wp2_with (first | (refine wpList_load_d rfl (.tmp 4) rfl w.heap.size _ rfl XN.out ?_) | (refine wpList_load_d rfl (.tmp 5) rfl (w.heap.size + 1) _ rfl YN.out ?_))
            refine (rjoin_any l l' NN.out MM.out _ HTJ.out).mono ?_
            rintro e w22 ⟨v, rfl, Lq, kz⟩
            replace XN := Lib.hid (XN.out.below XN.out.lt kz)
            replace YN := Lib.hid (YN.out.below YN.out.lt kz)
            replace NN := Lib.hid (NN.out.below kz)
            replace MM := Lib.hid (MM.out.below kz)
            replace Lp := Lib.hid (Lp.out.at kz)
            replace HB := Lib.hid (HB.out.trans (kz.mono HB.out.size))
            clear kz
            obtain ⟨gq, rfl⟩ := Lq.len HLN.out
            replace Lq := Lib.hid Lq
            go_wp2_with fail
            go_loopw [198] (fun i wr => ∃ j : Nat, j ≤ N ∧ i = .int .i64 (j : Int) ∧ Hid (Below w22.heap.size w22 wr)) (fun i _ => N - (Go.RowKit.intOf i).toNat)
            case atStart => exact ⟨0, Nat.zero_le _, rfl, Lib.hid (Below.refl _ _)⟩
            case round => as_aux_lemma =>
              obtain ⟨j, hj, rfl, HJ⟩ := hrel
              have kz := HJ.out
              replace XN := Lib.hid (XN.out.below XN.out.lt kz)
              replace YN := Lib.hid (YN.out.below YN.out.lt kz)
              replace NN := Lib.hid (NN.out.below kz)
              replace MM := Lib.hid (MM.out.below kz)
              replace Lp := Lib.hid (Lp.out.at kz)
              replace Lq := Lib.hid (Lq.out.at kz)
              replace HB := Lib.hid (HB.out.trans (kz.mono HB.out.size))
              clear kz
              by_cases hlt : j < N
              · skip
                have hlti : (j : Int) < (N : Int) := by omega
                obtain ⟨⟨lj, kj, vj⟩, hlj⟩ : ∃ q, L[j]? = some q := ⟨_, List.getElem?_eq_getElem (by rw [HLN.out]; exact hlt)⟩
                obtain ⟨gp1, egp⟩ := Lp.out.pos (by rw [HLN.out]; omega)
                obtain ⟨gq1, egq⟩ := Lq.out.pos (by rw [HLN.out]; omega)
                subst egp
                subst egq
                obtain ⟨Ap, cp, Bp, dp, p0, p1, p2', N1, _⟩ := Lp.out.el hlj
                obtain ⟨Aq, cq, Bq, dq, q0, q1, q2, N2, _⟩ := Lq.out.el hlj
                obtain ⟨nk, hnk⟩ : ∃ q, kj.length = q := ⟨_, rfl⟩
                obtain ⟨nv, hnv⟩ : ∃ q, vj.length = q := ⟨_, rfl⟩
                rw [hnk] at p1 q1 N1 N2
                rw [hnv] at p2' q2 N1 N2
                have P3 := Lib.hid (And.intro p0 (And.intro p1 p2'))
                have Q3 := Lib.hid (And.intro q0 (And.intro q1 q2))
                have NP := Lib.hid N1
                have NQ := Lib.hid N2
                have hblp := World.block_lt_of_cell? wr _ p0
                have hblq := World.block_lt_of_cell? wr _ q0
                have HJN := Lib.hid hlt
                clear p0 p1 p2' q0 q1 q2 N1 N2 hlj hnk hnv
                go_upto_region 26 with (fail)
                obtain ⟨w26, hw26⟩ : ∃ q, q = wr := ⟨_, rfl⟩
                subst hw26
                refine Inv2.wp_region_inv (fun b a wy => ∃ (z : Nat → Value), a = ⟨(List.toArray (Value.agg #[Value.bool l, Value.slice A n c, Value.slice B m d] :: Value.agg #[Value.bool l', Value.slice A' n' c', Value.slice B' m' d'] :: Value.int IntKind.u64 ↑k.toNat :: Value.int IntKind.u64 ↑x.toNat :: Value.pointer (some ⟨w.heap.size, 0, none⟩) :: Value.pointer (some ⟨w.heap.size + 1, 0, none⟩) :: undef :: undef :: u8 :: Value.int IntKind.i64 (a1 : Int) :: Value.bool p2 :: Value.int IntKind.i64 (j2 : Int) :: Value.int IntKind.i64 (a1 : Int) :: Value.bool p2 :: Value.int IntKind.i64 (j2 : Int) :: Value.pointer (some ⟨rp1, 0, none⟩) :: Value.pointer (some ⟨rq1, 0, none⟩) :: Value.pointer (some ⟨rp2, 0, none⟩) :: Value.int IntKind.u64 ↑t2.toNat :: Value.pointer (some ⟨rq2, 0, none⟩) :: Value.int IntKind.u64 ↑t2.toNat :: Value.pointer (some ⟨rp3, 0, none⟩) :: Value.pointer (some ⟨rq3, 0, none⟩) :: Value.pointer (some ⟨rr3, 0, none⟩) :: Value.pointer (some ⟨rs3, 0, none⟩) :: Value.slice (some ⟨gp1, 0, none⟩) N N :: Value.slice (some ⟨gq1, 0, none⟩) N N :: Value.int IntKind.i64 (j : Int) :: undef :: undef :: undef :: undef :: Value.pointer (some ⟨w.heap.size, 1, none⟩) :: Value.slice A n c :: Value.int IntKind.i64 (n : Int) :: Value.bool false :: Value.bool false :: Value.pointer (some ⟨w.heap.size + 1, 1, none⟩) :: Value.slice A' n' c' :: Value.int IntKind.i64 ↑n' :: Value.bool false :: Value.bool false :: Value.bool false :: Value.pointer (some ⟨w.heap.size, 2, none⟩) :: Value.slice B m d :: Value.int IntKind.i64 (m : Int) :: Value.bool false :: Value.bool false :: Value.bool false :: Value.pointer (some ⟨w.heap.size + 1, 2, none⟩) :: Value.slice B' m' d' :: Value.int IntKind.i64 ↑m' :: Value.bool false :: Value.bool false :: undef :: Value.tuple #[Value.int IntKind.i64 (a1 : Int), Value.bool a2, Value.int IntKind.i64 (a3 : Int)] :: Value.agg #[Value.bool l, Value.slice A n c, Value.slice B m d] :: Value.int IntKind.u64 ↑k.toNat :: Value.tuple #[Value.int IntKind.i64 (a1 : Int), Value.bool a2, Value.int IntKind.i64 (a3 : Int)] :: Value.int IntKind.i64 (a1 : Int) :: Value.bool a2 :: Value.int IntKind.i64 (a3 : Int) :: Value.tuple #[Value.int IntKind.i64 (a1 : Int), Value.bool a2, Value.int IntKind.i64 (a3 : Int)] :: Value.agg #[Value.bool l, Value.slice A n c, Value.slice B m d] :: Value.int IntKind.u64 ↑k.toNat :: Value.tuple #[Value.int IntKind.i64 (a1 : Int), Value.bool a2, Value.int IntKind.i64 (a3 : Int)] :: Value.int IntKind.i64 (a1 : Int) :: Value.bool a2 :: Value.int IntKind.i64 (a3 : Int) :: Value.agg #[Value.bool l, Value.slice A n c, Value.slice B m d] :: Value.bool (decide (Ok l ks vs)) :: Value.agg #[Value.bool l, Value.slice A n c, Value.slice B m d] :: Value.bool (decide (Ok l ks vs)) :: Value.bool false :: Value.bool false :: Value.int IntKind.i64 (a1 : Int) :: Value.int IntKind.i64 (a1 : Int) :: Value.bool false :: Value.bool false :: Value.bool false :: Value.bool a2 :: Value.bool a2 :: Value.bool false :: Value.bool false :: Value.bool false :: Value.int IntKind.i64 (a3 : Int) :: Value.int IntKind.i64 (a3 : Int) :: Value.bool false :: Value.bool false :: Value.tuple #[Value.agg #[Value.bool l1, Value.slice Ap1 np1 cp1, Value.slice Bp1 mp1 dp1], Value.bool p2, Value.int IntKind.i64 (p3 : Int)] :: Value.agg #[Value.bool l, Value.slice A n c, Value.slice B m d] :: Value.int IntKind.u64 ↑k.toNat :: Value.int IntKind.u64 ↑x.toNat :: Value.tuple #[Value.agg #[Value.bool l1, Value.slice Ap1 np1 cp1, Value.slice Bp1 mp1 dp1], Value.bool p2, Value.int IntKind.i64 (p3 : Int)] :: Value.agg #[Value.bool l1, Value.slice Ap1 np1 cp1, Value.slice Bp1 mp1 dp1] :: Value.bool p2 :: Value.int IntKind.i64 (p3 : Int) :: Value.tuple #[Value.agg #[Value.bool l1, Value.slice Aq1 nq1 cq1, Value.slice Bq1 mq1 dq1], Value.bool p2, Value.int IntKind.i64 (p3 : Int)] :: Value.agg #[Value.bool l, Value.slice A n c, Value.slice B m d] :: Value.int IntKind.u64 ↑k.toNat :: Value.int IntKind.u64 ↑x.toNat :: Value.tuple #[Value.agg #[Value.bool l1, Value.slice Aq1 nq1 cq1, Value.slice Bq1 mq1 dq1], Value.bool p2, Value.int IntKind.i64 (p3 : Int)] :: Value.agg #[Value.bool l1, Value.slice Aq1 nq1 cq1, Value.slice Bq1 mq1 dq1] :: Value.bool p2 :: Value.int IntKind.i64 (p3 : Int) :: Value.agg #[Value.bool l1, Value.slice Ap1 np1 cp1, Value.slice Bp1 mp1 dp1] :: Value.agg #[Value.bool l1, Value.slice Aq1 nq1 cq1, Value.slice Bq1 mq1 dq1] :: Value.bool true :: Value.bool false :: Value.bool false :: Value.bool p2 :: Value.bool p2 :: Value.bool false :: Value.bool false :: Value.bool false :: Value.int IntKind.i64 (p3 : Int) :: Value.int IntKind.i64 (p3 : Int) :: Value.bool false :: Value.bool false :: Value.tuple #[Value.agg #[Value.bool l2, Value.slice Ap2 np2 cp2, Value.slice Bp2 mp2 dp2], Value.int IntKind.u64 ↑t2.toNat, Value.int IntKind.i64 (t3 : Int)] :: Value.agg #[Value.bool l, Value.slice A n c, Value.slice B m d] :: Value.int IntKind.u64 ↑k.toNat :: Value.tuple #[Value.agg #[Value.bool l2, Value.slice Ap2 np2 cp2, Value.slice Bp2 mp2 dp2], Value.int IntKind.u64 ↑t2.toNat, Value.int IntKind.i64 (t3 : Int)] :: Value.agg #[Value.bool l2, Value.slice Ap2 np2 cp2, Value.slice Bp2 mp2 dp2] :: Value.int IntKind.u64 ↑t2.toNat :: Value.int IntKind.i64 (t3 : Int) :: Value.tuple #[Value.agg #[Value.bool l2, Value.slice Aq2 nq2 cq2, Value.slice Bq2 mq2 dq2], Value.int IntKind.u64 ↑t2.toNat, Value.int IntKind.i64 (t3 : Int)] :: Value.agg #[Value.bool l, Value.slice A n c, Value.slice B m d] :: Value.int IntKind.u64 ↑k.toNat :: Value.tuple #[Value.agg #[Value.bool l2, Value.slice Aq2 nq2 cq2, Value.slice Bq2 mq2 dq2], Value.int IntKind.u64 ↑t2.toNat, Value.int IntKind.i64 (t3 : Int)] :: Value.agg #[Value.bool l2, Value.slice Aq2 nq2 cq2, Value.slice Bq2 mq2 dq2] :: Value.int IntKind.u64 ↑t2.toNat :: Value.int IntKind.i64 (t3 : Int) :: Value.agg #[Value.bool l2, Value.slice Ap2 np2 cp2, Value.slice Bp2 mp2 dp2] :: Value.agg #[Value.bool l2, Value.slice Aq2 nq2 cq2, Value.slice Bq2 mq2 dq2] :: Value.bool true :: Value.bool false :: Value.bool false :: Value.int IntKind.u64 ↑t2.toNat :: Value.int IntKind.u64 ↑t2.toNat :: Value.bool false :: Value.bool false :: Value.bool false :: Value.int IntKind.i64 (t3 : Int) :: Value.int IntKind.i64 (t3 : Int) :: Value.bool false :: Value.bool false :: Value.tuple #[Value.agg #[Value.bool l3, Value.slice Ap3 np3 cp3, Value.slice Bp3 mp3 dp3], Value.agg #[Value.bool l4, Value.slice Aq3 nq3 cq3, Value.slice Bq3 mq3 dq3], Value.int IntKind.i64 (s3 : Int)] :: Value.agg #[Value.bool l, Value.slice A n c, Value.slice B m d] :: Value.tuple #[Value.agg #[Value.bool l3, Value.slice Ap3 np3 cp3, Value.slice Bp3 mp3 dp3], Value.agg #[Value.bool l4, Value.slice Aq3 nq3 cq3, Value.slice Bq3 mq3 dq3], Value.int IntKind.i64 (s3 : Int)] :: Value.agg #[Value.bool l3, Value.slice Ap3 np3 cp3, Value.slice Bp3 mp3 dp3] :: Value.agg #[Value.bool l4, Value.slice Aq3 nq3 cq3, Value.slice Bq3 mq3 dq3] :: Value.int IntKind.i64 (s3 : Int) :: Value.tuple #[Value.agg #[Value.bool l3, Value.slice Ar3 nr3 cr3, Value.slice Br3 mr3 dr3], Value.agg #[Value.bool l4, Value.slice As3 ns3 cs3, Value.slice Bs3 ms3 ds3], Value.int IntKind.i64 (s3 : Int)] :: Value.agg #[Value.bool l, Value.slice A n c, Value.slice B m d] :: Value.tuple #[Value.agg #[Value.bool l3, Value.slice Ar3 nr3 cr3, Value.slice Br3 mr3 dr3], Value.agg #[Value.bool l4, Value.slice As3 ns3 cs3, Value.slice Bs3 ms3 ds3], Value.int IntKind.i64 (s3 : Int)] :: Value.agg #[Value.bool l3, Value.slice Ar3 nr3 cr3, Value.slice Br3 mr3 dr3] :: Value.agg #[Value.bool l4, Value.slice As3 ns3 cs3, Value.slice Bs3 ms3 ds3] :: Value.int IntKind.i64 (s3 : Int) :: Value.agg #[Value.bool l3, Value.slice Ap3 np3 cp3, Value.slice Bp3 mp3 dp3] :: Value.agg #[Value.bool l3, Value.slice Ar3 nr3 cr3, Value.slice Br3 mr3 dr3] :: Value.bool true :: Value.bool false :: Value.bool false :: Value.agg #[Value.bool l4, Value.slice Aq3 nq3 cq3, Value.slice Bq3 mq3 dq3] :: Value.agg #[Value.bool l4, Value.slice As3 ns3 cs3, Value.slice Bs3 ms3 ds3] :: Value.bool true :: Value.bool false :: Value.bool false :: Value.bool false :: Value.int IntKind.i64 (s3 : Int) :: Value.int IntKind.i64 (s3 : Int) :: Value.bool false :: Value.bool false :: Value.tuple #[Value.slice (some ⟨gp1, 0, none⟩) N N, Value.int IntKind.i64 (j2 : Int)] :: Value.agg #[Value.bool l, Value.slice A n c, Value.slice B m d] :: Value.agg #[Value.bool l', Value.slice A' n' c', Value.slice B' m' d'] :: Value.tuple #[Value.slice (some ⟨gp1, 0, none⟩) N N, Value.int IntKind.i64 (j2 : Int)] :: Value.slice (some ⟨gp1, 0, none⟩) N N :: Value.int IntKind.i64 (j2 : Int) :: Value.tuple #[Value.slice (some ⟨gq1, 0, none⟩) N N, Value.int IntKind.i64 (j2 : Int)] :: Value.agg #[Value.bool l, Value.slice A n c, Value.slice B m d] :: Value.agg #[Value.bool l', Value.slice A' n' c', Value.slice B' m' d'] :: Value.tuple #[Value.slice (some ⟨gq1, 0, none⟩) N N, Value.int IntKind.i64 (j2 : Int)] :: Value.slice (some ⟨gq1, 0, none⟩) N N :: Value.int IntKind.i64 (j2 : Int) :: Value.slice (some ⟨gp1, 0, none⟩) N N :: Value.int IntKind.i64 (N : Int) :: Value.slice (some ⟨gq1, 0, none⟩) N N :: Value.int IntKind.i64 (N : Int) :: Value.bool false :: Value.bool false :: Value.int IntKind.i64 (j2 : Int) :: Value.int IntKind.i64 (j2 : Int) :: Value.bool false :: Value.bool false :: Value.slice (some ⟨gp1, 0, none⟩) N N :: Value.int IntKind.i64 (N : Int) :: Value.int IntKind.i64 (j : Int) :: Value.bool true :: Value.int IntKind.i64 (j : Int) :: (z 201) :: (z 202) :: (z 203) :: (z 204) :: (z 205) :: (z 206) :: (z 207) :: (z 208) :: (z 209) :: (z 210) :: u211 :: undef :: undef :: undef :: undef :: undef :: undef :: undef :: undef :: undef :: undef :: undef :: undef :: undef :: undef :: undef :: undef :: undef :: undef :: undef :: undef :: undef :: undef :: undef :: undef :: undef :: undef :: undef :: undef :: undef :: undef :: undef :: undef :: [])), []⟩ ∧ Hid ((b 0 = true → (z 201) = Value.slice (some ⟨gp1, 0, none⟩) N N) ∧ (b 1 = true → (z 202) = Value.int IntKind.i64 (j : Int)) ∧ (b 2 = true → (z 203) = .pointer (some ⟨gp1, j * 3, none⟩)) ∧ (b 3 = true → (z 204) = .agg #[.bool lj, .slice Ap nk cp, .slice Bp nv dp]) ∧ (b 4 = true → (z 205) = Value.slice (some ⟨gq1, 0, none⟩) N N) ∧ (b 5 = true → (z 206) = Value.int IntKind.i64 (j : Int)) ∧ (b 6 = true → (z 207) = .pointer (some ⟨gq1, j * 3, none⟩)) ∧ (b 7 = true → (z 208) = .agg #[.bool lj, .slice Aq nk cq, .slice Bq nv dq]) ∧ (b 8 = true → (z 209) = .bool true) ∧ (b 9 = true → (z 210) = .bool false)) ∧ Hid (Below w26.heap.size w26 wy)) (by kernel_rfl) (by kernel_rfl) ?startE ?stepsE ?doneE
                case startE =>
                  intro b hb
                  refine ⟨fun s => if s = 201 then u201 else if s = 202 then u202 else if s = 203 then u203 else if s = 204 then u204 else if s = 205 then u205 else if s = 206 then u206 else if s = 207 then u207 else if s = 208 then u208 else if s = 209 then u209 else if s = 210 then u210 else undef, rfl, Lib.hid ⟨?_, ?_, ?_, ?_, ?_, ?_, ?_, ?_, ?_, ?_⟩, Lib.hid ((show Still w26 w26.drew from ⟨rfl, rfl, rfl, rfl⟩).below _)⟩
                  all_goals (intro e; first | rfl | (rw [hb _ (by decide)] at e; cases e))
                case stepsE =>
                  refine ⟨?_, ?_, ?_, ?_, ?_, ?_, ?_, ?_, ?_, ?_, trivial⟩
                  · rintro b a wy hb hd ⟨z, rfl, HV, HW⟩ K hK
                    clear hd
                    go_simp
                    have V := HV.out
                    exact hK _ _ ⟨fun s => if s = 201 then Value.slice (some ⟨gp1, 0, none⟩) N N else z s, rfl, Lib.hid ⟨fun _ => rfl, V.2.1, V.2.2.1, V.2.2.2.1, V.2.2.2.2.1, V.2.2.2.2.2.1, V.2.2.2.2.2.2.1, V.2.2.2.2.2.2.2.1, V.2.2.2.2.2.2.2.2.1, V.2.2.2.2.2.2.2.2.2⟩, HW⟩
                  · rintro b a wy hb hd ⟨z, rfl, HV, HW⟩ K hK
                    clear hd
                    go_simp
                    have V := HV.out
                    exact hK _ _ ⟨fun s => if s = 202 then Value.int IntKind.i64 (j : Int) else z s, rfl, Lib.hid ⟨V.1, fun _ => rfl, V.2.2.1, V.2.2.2.1, V.2.2.2.2.1, V.2.2.2.2.2.1, V.2.2.2.2.2.2.1, V.2.2.2.2.2.2.2.1, V.2.2.2.2.2.2.2.2.1, V.2.2.2.2.2.2.2.2.2⟩, HW⟩
                  · rintro b a wy hb hd ⟨z, rfl, HV, HW⟩ K hK
                    simp [Region.binds] at hd
                    have e0 : (z 201) = Value.slice (some ⟨gp1, 0, none⟩) N N := (HV.out.1) (by simp [hd])
                    have e1 : (z 202) = Value.int IntKind.i64 (j : Int) := (HV.out.2.1) (by simp [hd])
                    clear hd
                    have hwj : IntKind.i64.wrap (j : Int) = (j : Int) := IntWalk.i64_in _ (by omega)
                    go_simp
                    have V := HV.out
                    exact hK _ _ ⟨fun s => if s = 203 then .pointer (some ⟨gp1, j * 3, none⟩) else if s = 201 then Value.slice (some ⟨gp1, 0, none⟩) N N else if s = 202 then Value.int IntKind.i64 (j : Int) else z s, rfl, Lib.hid ⟨fun _ => rfl, fun _ => rfl, fun _ => rfl, V.2.2.2.1, V.2.2.2.2.1, V.2.2.2.2.2.1, V.2.2.2.2.2.2.1, V.2.2.2.2.2.2.2.1, V.2.2.2.2.2.2.2.2.1, V.2.2.2.2.2.2.2.2.2⟩, HW⟩
                  · rintro b a wy hb hd ⟨z, rfl, HV, HW⟩ K hK
                    simp [Region.binds] at hd
                    have e2 : (z 203) = .pointer (some ⟨gp1, j * 3, none⟩) := (HV.out.2.2.1) (by simp [hd])
                    clear hd
                    have z0 := (HW.out.cell (p := ⟨gp1, j * 3, none⟩) hblp).trans P3.out.1
                    have z1 := (HW.out.cell (p := ⟨gp1, j * 3 + 1, none⟩) hblp).trans P3.out.2.1
                    have z2 := (HW.out.cell (p := ⟨gp1, j * 3 + 2, none⟩) hblp).trans P3.out.2.2
                    go_simp
                    have V := HV.out
                    exact hK _ _ ⟨fun s => if s = 204 then .agg #[.bool lj, .slice Ap nk cp, .slice Bp nv dp] else if s = 203 then .pointer (some ⟨gp1, j * 3, none⟩) else z s, rfl, Lib.hid ⟨V.1, V.2.1, fun _ => rfl, fun _ => rfl, V.2.2.2.2.1, V.2.2.2.2.2.1, V.2.2.2.2.2.2.1, V.2.2.2.2.2.2.2.1, V.2.2.2.2.2.2.2.2.1, V.2.2.2.2.2.2.2.2.2⟩, HW⟩
                  · rintro b a wy hb hd ⟨z, rfl, HV, HW⟩ K hK
                    clear hd
                    go_simp
                    have V := HV.out
                    exact hK _ _ ⟨fun s => if s = 205 then Value.slice (some ⟨gq1, 0, none⟩) N N else z s, rfl, Lib.hid ⟨V.1, V.2.1, V.2.2.1, V.2.2.2.1, fun _ => rfl, V.2.2.2.2.2.1, V.2.2.2.2.2.2.1, V.2.2.2.2.2.2.2.1, V.2.2.2.2.2.2.2.2.1, V.2.2.2.2.2.2.2.2.2⟩, HW⟩
                  · rintro b a wy hb hd ⟨z, rfl, HV, HW⟩ K hK
                    clear hd
                    go_simp
                    have V := HV.out
                    exact hK _ _ ⟨fun s => if s = 206 then Value.int IntKind.i64 (j : Int) else z s, rfl, Lib.hid ⟨V.1, V.2.1, V.2.2.1, V.2.2.2.1, V.2.2.2.2.1, fun _ => rfl, V.2.2.2.2.2.2.1, V.2.2.2.2.2.2.2.1, V.2.2.2.2.2.2.2.2.1, V.2.2.2.2.2.2.2.2.2⟩, HW⟩
                  · rintro b a wy hb hd ⟨z, rfl, HV, HW⟩ K hK
                    simp [Region.binds] at hd
                    have e4 : (z 205) = Value.slice (some ⟨gq1, 0, none⟩) N N := (HV.out.2.2.2.2.1) (by simp [hd])
                    have e5 : (z 206) = Value.int IntKind.i64 (j : Int) := (HV.out.2.2.2.2.2.1) (by simp [hd])
                    clear hd
                    have hwj : IntKind.i64.wrap (j : Int) = (j : Int) := IntWalk.i64_in _ (by omega)
                    go_simp
                    have V := HV.out
                    exact hK _ _ ⟨fun s => if s = 207 then .pointer (some ⟨gq1, j * 3, none⟩) else if s = 205 then Value.slice (some ⟨gq1, 0, none⟩) N N else if s = 206 then Value.int IntKind.i64 (j : Int) else z s, rfl, Lib.hid ⟨V.1, V.2.1, V.2.2.1, V.2.2.2.1, fun _ => rfl, fun _ => rfl, fun _ => rfl, V.2.2.2.2.2.2.2.1, V.2.2.2.2.2.2.2.2.1, V.2.2.2.2.2.2.2.2.2⟩, HW⟩
                  · rintro b a wy hb hd ⟨z, rfl, HV, HW⟩ K hK
                    simp [Region.binds] at hd
                    have e6 : (z 207) = .pointer (some ⟨gq1, j * 3, none⟩) := (HV.out.2.2.2.2.2.2.1) (by simp [hd])
                    clear hd
                    have z0 := (HW.out.cell (p := ⟨gq1, j * 3, none⟩) hblq).trans Q3.out.1
                    have z1 := (HW.out.cell (p := ⟨gq1, j * 3 + 1, none⟩) hblq).trans Q3.out.2.1
                    have z2 := (HW.out.cell (p := ⟨gq1, j * 3 + 2, none⟩) hblq).trans Q3.out.2.2
                    go_simp
                    have V := HV.out
                    exact hK _ _ ⟨fun s => if s = 208 then .agg #[.bool lj, .slice Aq nk cq, .slice Bq nv dq] else if s = 207 then .pointer (some ⟨gq1, j * 3, none⟩) else z s, rfl, Lib.hid ⟨V.1, V.2.1, V.2.2.1, V.2.2.2.1, V.2.2.2.2.1, V.2.2.2.2.2.1, fun _ => rfl, fun _ => rfl, V.2.2.2.2.2.2.2.2.1, V.2.2.2.2.2.2.2.2.2⟩, HW⟩
                  · rintro b a wy hb hd ⟨z, rfl, HV, HW⟩ K hK
                    simp [Region.binds] at hd
                    have e3 : (z 204) = .agg #[.bool lj, .slice Ap nk cp, .slice Bp nv dp] := (HV.out.2.2.2.1) (by simp [hd])
                    have e7 : (z 208) = .agg #[.bool lj, .slice Aq nk cq, .slice Bq nv dq] := (HV.out.2.2.2.2.2.2.2.1) (by simp [hd])
                    clear hd
                    have C1 := same_yes lj (NP.out.below HW.out) (NQ.out.below HW.out)
                    go_simp
                    go_at_call 16
                    refine (C1).mono ?_
                    rintro e wz ⟨rfl, kz⟩
                    try go_simp
                    have V := HV.out
                    exact hK _ _ ⟨fun s => if s = 209 then .bool true else if s = 204 then .agg #[.bool lj, .slice Ap nk cp, .slice Bp nv dp] else if s = 208 then .agg #[.bool lj, .slice Aq nk cq, .slice Bq nv dq] else z s, rfl, Lib.hid ⟨V.1, V.2.1, V.2.2.1, fun _ => rfl, V.2.2.2.2.1, V.2.2.2.2.2.1, V.2.2.2.2.2.2.1, fun _ => rfl, fun _ => rfl, V.2.2.2.2.2.2.2.2.2⟩, Lib.hid (HW.out.trans (kz.mono HW.out.size))⟩
                  · rintro b a wy hb hd ⟨z, rfl, HV, HW⟩ K hK
                    simp [Region.binds] at hd
                    have e8 : (z 209) = .bool true := (HV.out.2.2.2.2.2.2.2.2.1) (by simp [hd])
                    clear hd
                    go_simp
                    have V := HV.out
                    exact hK _ _ ⟨fun s => if s = 210 then .bool false else if s = 209 then .bool true else z s, rfl, Lib.hid ⟨V.1, V.2.1, V.2.2.1, V.2.2.2.1, V.2.2.2.2.1, V.2.2.2.2.2.1, V.2.2.2.2.2.2.1, V.2.2.2.2.2.2.2.1, fun _ => rfl, fun _ => rfl⟩, HW⟩
                case doneE =>
                  rintro b a w9 hb ⟨z, rfl, HV, HW⟩
                  have e0 := (HV.out.1) (hb 0)
                  have e1 := (HV.out.2.1) (hb 1)
                  have e2 := (HV.out.2.2.1) (hb 2)
                  have e3 := (HV.out.2.2.2.1) (hb 3)
                  have e4 := (HV.out.2.2.2.2.1) (hb 4)
                  have e5 := (HV.out.2.2.2.2.2.1) (hb 5)
                  have e6 := (HV.out.2.2.2.2.2.2.1) (hb 6)
                  have e7 := (HV.out.2.2.2.2.2.2.2.1) (hb 7)
                  have e8 := (HV.out.2.2.2.2.2.2.2.2.1) (hb 8)
                  have e9 := (HV.out.2.2.2.2.2.2.2.2.2) (hb 9)
                  simp only [e0, e1, e2, e3, e4, e5, e6, e7, e8, e9]
                  clear HV hb e0 e1 e2 e3 e4 e5 e6 e7 e8 e9
                  have H9 := Lib.hid (HJ.out.trans (HW.out.mono HJ.out.size))
                  clear HW
                  go_wp2_with fail
                  go_roundw
                  case rel => exact ⟨j + 1, by have := HJN.out; omega, by go_num, H9⟩
                  case measure => simp [Go.RowKit.intOf]; omega
              · skip
                have hlti : ¬ (j : Int) < (N : Int) := by omega
                clear Lp Lq HTJ HJ
                obtain ⟨⟨⟨l5, k5, v5⟩, g5, c5⟩, htc⟩ : ∃ q, q = cutR l ks vs k x := ⟨_, rfl⟩
                have HTC := Lib.hid htc
                clear htc
                go_wp2_with (first | (refine wpList_load_d rfl (.tmp 4) rfl w.heap.size _ rfl XN.out ?_))
                refine (cut_any l NN.out k x _ HTC.out).mono ?_
                rintro e w23 ⟨v, gp5, rfl, ow, ogp5, kz⟩
                replace XN := Lib.hid (XN.out.below XN.out.lt kz)
                replace YN := Lib.hid (YN.out.below YN.out.lt kz)
                replace NN := Lib.hid (NN.out.below kz)
                replace MM := Lib.hid (MM.out.below kz)
                replace HB := Lib.hid (HB.out.trans (kz.mono HB.out.size))
                clear kz
                obtain ⟨Ap5, np5, cp5, Bp5, mp5, dp5, rfl, Np5⟩ := ow.pn
                replace Np5 := Lib.hid Np5
                clear ow
                obtain ⟨Gp5, ep5, rfl, Tp5, lep5, lmp5⟩ := ogp5.slice
                have Op5 := Lib.hid ogp5
                have LEp5 := Lib.hid (Nat.le_trans lep5 lmp5)
                clear ogp5 Tp5 lep5 lmp5
                obtain ⟨ng, hng⟩ : ∃ q, g5.length = q := ⟨_, rfl⟩
                have HNG := Lib.hid hng
                rw [show g5.length = ng from HNG.out] at Op5 LEp5 ⊢
                clear hng
                go_upto_region 30 with (fail)
                have kz0 := Below.refl w23.heap.size w23
                have XP0 := box_new (w23) l5 Ap5 np5 cp5 Bp5 mp5 dp5
                have kz1 := kz0.alloc kz0.size (.cells #[.bool l5, .slice Ap5 np5 cp5, .slice Bp5 mp5 dp5] 24)
                have XP := Lib.hid XP0
                clear XP0
                have kz := kz1
                clear kz0 kz1
                obtain ⟨rp5, hrp5⟩ : ∃ r, r = w23.heap.size := ⟨_, rfl⟩
                generalize (w23).alloc (.cells #[.bool l5, .slice Ap5 np5 cp5, .slice Bp5 mp5 dp5] 24) = w24 at *
                replace XN := Lib.hid (XN.out.below XN.out.lt kz)
                replace YN := Lib.hid (YN.out.below YN.out.lt kz)
                replace NN := Lib.hid (NN.out.below kz)
                replace MM := Lib.hid (MM.out.below kz)
                replace Np5 := Lib.hid (Np5.out.below kz)
                replace Op5 := Lib.hid (own_at Op5.out kz)
                replace HB := Lib.hid (HB.out.trans (kz.mono HB.out.size))
                try rw [← hrp5]
                rw [← hrp5] at XP
                clear kz hrp5
                go_wp2_with (first | (refine wpList_load_d rfl (.tmp 4) rfl w.heap.size _ rfl XN.out ?_))
                refine (rcut_any l NN.out k x _ HTC.out).mono ?_
                rintro e w25 ⟨v, gq5, rfl, ow, ogq5, kz⟩
                replace XN := Lib.hid (XN.out.below XN.out.lt kz)
                replace YN := Lib.hid (YN.out.below YN.out.lt kz)
                replace NN := Lib.hid (NN.out.below kz)
                replace MM := Lib.hid (MM.out.below kz)
                replace Np5 := Lib.hid (Np5.out.below kz)
                replace Op5 := Lib.hid (own_at Op5.out kz)
                replace XP := Lib.hid (XP.out.below XP.out.lt kz)
                replace HB := Lib.hid (HB.out.trans (kz.mono HB.out.size))
                clear kz
                obtain ⟨Aq5, nq5, cq5, Bq5, mq5, dq5, rfl, Nq5⟩ := ow.pn
                replace Nq5 := Lib.hid Nq5
                clear ow
                obtain ⟨Gq5, eq5, rfl, Tq5, leq5, lmq5⟩ := ogq5.slice
                have Oq5 := Lib.hid ogq5
                have LEq5 := Lib.hid (Nat.le_trans leq5 lmq5)
                clear ogq5 Tq5 leq5 lmq5
                rw [show g5.length = ng from HNG.out] at Oq5 LEq5 ⊢
                go_upto_region 31 with (fail)
                have kz0 := Below.refl w25.heap.size w25
                have XQ0 := box_new (w25) l5 Aq5 nq5 cq5 Bq5 mq5 dq5
                have kz1 := kz0.alloc kz0.size (.cells #[.bool l5, .slice Aq5 nq5 cq5, .slice Bq5 mq5 dq5] 24)
                have XQ := Lib.hid XQ0
                clear XQ0
                have kz := kz1
                clear kz0 kz1
                obtain ⟨rq5, hrq5⟩ : ∃ r, r = w25.heap.size := ⟨_, rfl⟩
                generalize (w25).alloc (.cells #[.bool l5, .slice Aq5 nq5 cq5, .slice Bq5 mq5 dq5] 24) = w26 at *
                replace XN := Lib.hid (XN.out.below XN.out.lt kz)
                replace YN := Lib.hid (YN.out.below YN.out.lt kz)
                replace NN := Lib.hid (NN.out.below kz)
                replace MM := Lib.hid (MM.out.below kz)
                replace Np5 := Lib.hid (Np5.out.below kz)
                replace Op5 := Lib.hid (own_at Op5.out kz)
                replace XP := Lib.hid (XP.out.below XP.out.lt kz)
                replace Nq5 := Lib.hid (Nq5.out.below kz)
                replace Oq5 := Lib.hid (own_at Oq5.out kz)
                replace HB := Lib.hid (HB.out.trans (kz.mono HB.out.size))
                try rw [← hrq5]
                rw [← hrq5] at XQ
                clear kz hrq5
                go_wp2_with (first | (refine wpList_load_d rfl (.tmp 28) rfl rp5 _ rfl XP.out ?_) | (refine wpList_load_d rfl (.tmp 30) rfl rq5 _ rfl XQ.out ?_))
                refine (same_yes l5 Np5.out Nq5.out).mono ?_
                rintro e w27 ⟨rfl, kz⟩
                replace XN := Lib.hid (XN.out.below XN.out.lt kz)
                replace YN := Lib.hid (YN.out.below YN.out.lt kz)
                replace NN := Lib.hid (NN.out.below kz)
                replace MM := Lib.hid (MM.out.below kz)
                replace Np5 := Lib.hid (Np5.out.below kz)
                replace Op5 := Lib.hid (own_at Op5.out kz)
                replace XP := Lib.hid (XP.out.below XP.out.lt kz)
                replace Nq5 := Lib.hid (Nq5.out.below kz)
                replace Oq5 := Lib.hid (own_at Oq5.out kz)
                replace XQ := Lib.hid (XQ.out.below XQ.out.lt kz)
                replace HB := Lib.hid (HB.out.trans (kz.mono HB.out.size))
                clear kz
                obtain ⟨Gp2, ep2, hep, Tp, ll1, ll2⟩ := Op5.out.slice
                obtain ⟨Gq2, eq2, heq, Tq, ll3, ll4⟩ := Oq5.out.slice
                simp only [Value.slice.injEq] at hep heq
                obtain ⟨rfl, hh1, rfl⟩ := hep
                obtain ⟨rfl, hh2, rfl⟩ := heq
                clear hh1 hh2
                have TP := Lib.hid Tp
                have TQ := Lib.hid Tq
                clear Tp Tq ll1 ll2 ll3 ll4
                go_wp2_with fail
                refine (numbers_any Gp5 Gq5 ng ng ep5 eq5 g5 g5 HNG.out HNG.out _ LEp5.out LEq5.out TP.out TQ.out).mono ?_
                rintro e w28 ⟨rfl, S9⟩
                replace HB := Lib.hid (HB.out.trans (S9.below _))
                clear S9
                rw [decide_eq_true (show g5 = g5 from rfl)]
                go_wp2_with fail
                refine (HAW.out _).mono ?_
                rintro e w29 ⟨rfl, kz⟩
                replace HB := Lib.hid (HB.out.trans (kz.mono HB.out.size))
                clear kz
                go_wp2_with fail
                go_ret
                exact ⟨rfl, HB.out⟩

end Go.Proofs.Ytllopocekegljaa.No
