/- The walk of the statement LeafKinds. -/
import Derived.Test.YtelaconfjofciaaLfK
import Derived.Deep.DeepCutAuto
import Derived.Deep.RegionHeld3
namespace Go.Proofs.Ytelaconfjofciaa.Lf
open Go.RowKit Go.Proofs.Ytelaconfjofciaa.Oct
set_option linter.unusedVariables false

theorem fit_true {ks vs : List UInt64} (h : Fit false ks vs) : Fit true ks vs := ⟨h.1, h.2.1, h.2.2.1, .inl rfl⟩

/-- Two nodes in variables of their own: the same lists, one a leaf's, one not. -/
structure Pair2 (w : World) (p q : Nat) (A : Option Addr) (n c : Nat) (B : Option Addr) (m d : Nat) (ks vs : List UInt64) : Prop where
  a0 : w.cell? ⟨p, 0, none⟩ = some (.bool true)
  a1 : w.cell? ⟨p, 1, none⟩ = some (.slice A n c)
  a2 : w.cell? ⟨p, 2, none⟩ = some (.slice B m d)
  b0 : w.cell? ⟨q, 0, none⟩ = some (.bool false)
  b1 : w.cell? ⟨q, 1, none⟩ = some (.slice A n c)
  b2 : w.cell? ⟨q, 2, none⟩ = some (.slice B m d)
  l1 : p < w.heap.size
  l2 : q < w.heap.size
  nd : Nd w A n c B m d ks vs
theorem Pair2.below {w w' : World} {p q : Nat} {A : Option Addr} {n c : Nat} {B : Option Addr} {m d : Nat} {ks vs : List UInt64} (h : Pair2 w p q A n c B m d ks vs) (k : Below w.heap.size w w') : Pair2 w' p q A n c B m d ks vs :=
  ⟨(k.cell (p := ⟨p, 0, none⟩) h.l1).trans h.a0, (k.cell (p := ⟨p, 1, none⟩) h.l1).trans h.a1, (k.cell (p := ⟨p, 2, none⟩) h.l1).trans h.a2, (k.cell (p := ⟨q, 0, none⟩) h.l2).trans h.b0, (k.cell (p := ⟨q, 1, none⟩) h.l2).trans h.b1, (k.cell (p := ⟨q, 2, none⟩) h.l2).trans h.b2, Nat.lt_of_lt_of_le h.l1 k.size, Nat.lt_of_lt_of_le h.l2 k.size, h.nd.below k⟩
theorem pair_one {w : World} {A : Option Addr} {n c : Nat} {B : Option Addr} {m d : Nat} {ks vs : List UInt64} (h : Nd w A n c B m d ks vs) :
    Pair2 ((w.alloc (.cells #[.bool true, .slice A n c, .slice B m d] 24)).alloc (.cells #[.bool false, .slice A n c, .slice B m d] 24)).drew w.heap.size (w.heap.size + 1) A n c B m d ks vs :=
  ⟨by simp, by simp, by simp, by simp, by simp, by simp, by show _ < (World.alloc _ _).heap.size; simp <;> omega, by show _ < (World.alloc _ _).heap.size; simp <;> omega, ((h.boxed _).boxed _).still (Still.drew _)⟩
theorem pair_two {w : World} {A : Option Addr} {n c : Nat} {B : Option Addr} {m d : Nat} {ks vs : List UInt64} (h : Nd w A n c B m d ks vs) :
    Pair2 ((w.alloc (.cells #[.bool false, .slice A n c, .slice B m d] 24)).alloc (.cells #[.bool true, .slice A n c, .slice B m d] 24)).drew (w.heap.size + 1) w.heap.size A n c B m d ks vs :=
  ⟨by simp, by simp, by simp, by simp, by simp, by simp, by show _ < (World.alloc _ _).heap.size; simp <;> omega, by show _ < (World.alloc _ _).heap.size; simp <;> omega, ((h.boxed _).boxed _).still (Still.drew _)⟩

set_option maxRecDepth 100000 in
set_option maxHeartbeats 2000000 in
theorem kinds_walk (l : Bool) (A : Option Addr) (n c : Nat) (B : Option Addr) (m d : Nat) (ks vs : List UInt64) (w : World) (h : Nd w A n c B m d ks vs) :
    Calls Try.prog 6 #[.agg #[.bool l, .slice A n c, .slice B m d]] w fun e w' => e = .returned (.bool true) ∧ Below w.heap.size w w' := by
  have HD := Lib.hid h
  have BB := Lib.hid ((Below.refl w.heap.size w).alloc (Nat.le_refl _) (.cells #[.bool l, .slice A n c, .slice B m d] 24))
  clear h
  by_cases hn : n ≤ 20
  · by_cases hm : m ≤ 20
    · go_enter Try.func6, Try.ntmps6
      go_upto_region 3 with (fail)
      have c0 := box_cell w #[.bool l, .slice A n c, .slice B m d] 24 0 _ rfl
      have c1 := box_cell w #[.bool l, .slice A n c, .slice B m d] 24 1 _ rfl
      have c2 := box_cell w #[.bool l, .slice A n c, .slice B m d] 24 2 _ rfl
      have hlt : w.heap.size < (w.alloc (.cells #[.bool l, .slice A n c, .slice B m d] 24)).heap.size := by simp
      have HD1 := Lib.hid (HD.out.boxed (.cells #[.bool l, .slice A n c, .slice B m d] 24))
      generalize w.alloc (.cells #[.bool l, .slice A n c, .slice B m d] 24) = w1 at *
      simp only [List.getElem_toArray, List.getElem_cons_zero, List.getElem_cons_succ] at c0 c1 c2
      have KS := Lib.hid (show ∀ w', Below w1.heap.size w1 w' → (w'.cell? ⟨w.heap.size, 0, none⟩ = some (.bool l) ∧ w'.cell? ⟨w.heap.size, 1, none⟩ = some (.slice A n c) ∧ w'.cell? ⟨w.heap.size, 2, none⟩ = some (.slice B m d)) from fun w' k => ⟨(k.cell (p := ⟨w.heap.size, 0, none⟩) hlt).trans c0, (k.cell (p := ⟨w.heap.size, 1, none⟩) hlt).trans c1, (k.cell (p := ⟨w.heap.size, 2, none⟩) hlt).trans c2⟩)
      go_region_held3 (fun w' => w'.cell? ⟨w.heap.size, 0, none⟩ = some (.bool l) ∧ w'.cell? ⟨w.heap.size, 1, none⟩ = some (.slice A n c) ∧ w'.cell? ⟨w.heap.size, 2, none⟩ = some (.slice B m d)) ((refine KS.out _ ?_; (repeat' (first | with_reducible exact Below.refl _ _ | with_reducible refine Below.drew ?_ | with_reducible refine Below.setCell ?_ (by first | exact Nat.le_refl _ | exact Nat.le_succ _) _ | with_reducible refine Below.alloc ?_ (by first | exact Nat.le_refl _ | (simp; done) | (simp; omega)) _)))) (skip)
      all_goals
        go_wp2_with fail
        first
          | (have T0 := Lib.hid (pair_one HD1.out); have BT := Lib.hid ((BB.out.alloc BB.out.size (.cells #[.bool true, .slice A n c, .slice B m d] 24)).alloc (Nat.le_trans BB.out.size (by simp)) (.cells #[.bool false, .slice A n c, .slice B m d] 24)).drew; with_reducible refine (right_any false T0.out.nd (by omega) (by omega)).mono ?_)
          | (have T0 := Lib.hid (pair_two HD1.out); have BT := Lib.hid ((BB.out.alloc BB.out.size (.cells #[.bool false, .slice A n c, .slice B m d] 24)).alloc (Nat.le_trans BB.out.size (by simp)) (.cells #[.bool true, .slice A n c, .slice B m d] 24)).drew; with_reducible refine (right_any false T0.out.nd (by omega) (by omega)).mono ?_)
        rintro e w2 ⟨rfl, B2⟩
        have T2 := Lib.hid (T0.out.below B2)
        have B2' := Lib.hid (BT.out.trans (B2.mono BT.out.size))
        clear B2 T0 BT c0 c1 c2
        by_cases h2 : Fit false ks vs
        · rw [decide_eq_true h2]
          have HF := Lib.hid h2
          clear h2
          have a0 := T2.out.a0
          have a1 := T2.out.a1
          have a2 := T2.out.a2
          have b0 := T2.out.b0
          have b1 := T2.out.b1
          have b2 := T2.out.b2
          go_wp2_with fail
          refine (right_any true T2.out.nd (by omega) (by omega)).mono ?_
          rintro e w3 ⟨rfl, B3⟩
          rw [decide_eq_true (fit_true HF.out)]
          have T3 := Lib.hid (T2.out.below B3)
          have B3' := Lib.hid (B2'.out.trans (B3.mono B2'.out.size))
          clear B3 T2 a0 a1 a2 b0 b1 b2
          have a0 := T3.out.a0
          have a1 := T3.out.a1
          have a2 := T3.out.a2
          have b0 := T3.out.b0
          have b1 := T3.out.b1
          have b2 := T3.out.b2
          go_wp2_with fail
          refine (right_any false T3.out.nd (by omega) (by omega)).mono ?_
          rintro e w4 ⟨rfl, B4⟩
          rw [decide_eq_true HF.out]
          have T4 := Lib.hid (T3.out.below B4)
          have B4' := Lib.hid (B3'.out.trans (B4.mono B3'.out.size))
          clear B4 T3 a0 a1 a2 b0 b1 b2
          have a0 := T4.out.a0
          have a1 := T4.out.a1
          have a2 := T4.out.a2
          have b0 := T4.out.b0
          have b1 := T4.out.b1
          have b2 := T4.out.b2
          go_wp2_with fail
          refine (encode_yes true T4.out.nd (fit_true HF.out)).mono ?_
          rintro e w5 ⟨g1, rfl, F5⟩
          have T5 := Lib.hid (T4.out.below F5.below)
          have B5' := Lib.hid (B4'.out.trans (F5.below.mono B4'.out.size))
          clear T4 a0 a1 a2 b0 b1 b2
          have a0 := T5.out.a0
          have a1 := T5.out.a1
          have a2 := T5.out.a2
          have b0 := T5.out.b0
          have b1 := T5.out.b1
          have b2 := T5.out.b2
          go_wp2_with fail
          refine (encode_yes false T5.out.nd HF.out).mono ?_
          rintro e w6 ⟨g2, rfl, F6⟩
          have B6' := Lib.hid (B5'.out.trans (F6.below.mono B5'.out.size))
          have P1 := Lib.hid (show Has w6 g1 0 (page 1 (nodeBody ks vs)) from F5.has.below F5.hi F6.below)
          have P2 := Lib.hid (show Has w6 g2 0 (page 2 (nodeBody ks vs)) from F6.has)
          have L1 := Lib.hid (Nat.lt_of_lt_of_le F5.hi F6.below.size)
          have L2 := Lib.hid F6.hi
          have q1 : w6.cell? ⟨g1, 0, none⟩ = some (.int .u8 1) := has_at P1.out (i := 0) (c := 1) rfl
          have q2 : w6.cell? ⟨g2, 0, none⟩ = some (.int .u8 2) := has_at P2.out (i := 0) (c := 2) rfl
          have hbl := Lib.hid (show (nodeBody ks vs).length ≤ 123 by rw [length_nodeBody ks vs HF.out.2.1]; have := HF.out.1; omega)
          have O1 := Lib.hid (show Calls Try.prog 21 #[.slice (some ⟨g1, 0, none⟩) 128 128] w6 (fun e w' => ∃ g, e = .returned (.tuple #[.int .u8 1, .slice (some ⟨g, 0, none⟩) 123 123, .int .i64 0]) ∧ Fresh w6 w' g (fullBody ks vs) 123) from open_page g1 0 128 1 _ hbl.out _ P1.out (by decide) (by decide))
          clear T5 F5 F6 a0 a1 a2 b0 b1 b2
          go_wp2_with fail
          refine O1.out.mono ?_
          rintro e w7 ⟨r1, rfl, F7⟩
          have B7' := Lib.hid (B6'.out.trans (F7.below.mono B6'.out.size))
          have P2' := Lib.hid (P2.out.below L2.out F7.below)
          have O2 := Lib.hid (show Calls Try.prog 21 #[.slice (some ⟨g2, 0, none⟩) 128 128] w7 (fun e w' => ∃ g, e = .returned (.tuple #[.int .u8 2, .slice (some ⟨g, 0, none⟩) 123 123, .int .i64 0]) ∧ Fresh w7 w' g (fullBody ks vs) 123) from open_page g2 0 128 2 _ hbl.out _ P2'.out (by decide) (by decide))
          clear q1 q2 O1
          go_wp2_with fail
          refine O2.out.mono ?_
          rintro e w8 ⟨r2, rfl, F8⟩
          have B8' := Lib.hid (B7'.out.trans (F8.below.mono B7'.out.size))
          have X1 := Lib.hid ((F7.has.below F7.hi F8.below).told)
          have X2 := Lib.hid (F8.has.told)
          have HL := Lib.hid (length_fullBody ks vs HF.out.2.1 HF.out.1)
          clear F7 F8 O2
          go_wp2_with fail
          refine (equal_yes _ _ 123 123 123 123 (fullBody ks vs) (fullBody ks vs) rfl HL.out HL.out _ X1.out X2.out).mono ?_
          rintro e w9 ⟨rfl, rfl⟩
          go_wp2_with fail
          refine (awake_any _).mono ?_
          rintro e w10 ⟨rfl, B10⟩
          have B10' := Lib.hid (B8'.out.trans (B10.mono B8'.out.size))
          clear B10
          go_wp2_with fail
          go_ret
          exact ⟨rfl, B10'.out⟩
        · rw [decide_eq_false h2]
          have HF := Lib.hid h2
          clear h2
          have a0 := T2.out.a0
          have a1 := T2.out.a1
          have a2 := T2.out.a2
          have b0 := T2.out.b0
          have b1 := T2.out.b1
          have b2 := T2.out.b2
          go_wp2_with fail
          refine (right_any false T2.out.nd (by omega) (by omega)).mono ?_
          rintro e w3 ⟨rfl, B3⟩
          rw [decide_eq_false HF.out]
          have B3' := Lib.hid (B2'.out.trans (B3.mono B2'.out.size))
          clear B3 T2 a0 a1 a2 b0 b1 b2
          go_wp2_with fail
          refine (awake_any _).mono ?_
          rintro e w4 ⟨rfl, B4⟩
          have B4' := Lib.hid (B3'.out.trans (B4.mono B3'.out.size))
          clear B4
          go_wp2_with fail
          go_ret
          exact ⟨rfl, B4'.out⟩
    · go_enter Try.func6, Try.ntmps6
      go_wp2_with fail
      refine (awake_any _).mono ?_
      rintro e w2 ⟨rfl, B2⟩
      go_wp2_with fail
      go_ret
      exact ⟨rfl, BB.out.trans (B2.mono BB.out.size)⟩
  · go_enter Try.func6, Try.ntmps6
    go_wp2_with fail
    refine (awake_any _).mono ?_
    rintro e w2 ⟨rfl, B2⟩
    go_wp2_with fail
    go_ret
    exact ⟨rfl, BB.out.trans (B2.mono BB.out.size)⟩
end Go.Proofs.Ytelaconfjofciaa.Lf
