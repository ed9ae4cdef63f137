/- The contract of awake, catchmentlaw04's own. -/
import Derived.Test.YtamibckpkhpmfaaSfM
namespace Go.Proofs.Ytamibckpkhpmfaa.Sf
open Go.RowKit Go.Proofs.Ytamibckpkhpmfaa.Oct
set_option linter.unusedVariables false

theorem lit_sh (w : World) (es : List Ent) (h : es.length ≤ 100) : Sh (w.alloc (.cells (evals es).toArray 40)) (some ⟨w.heap.size, 0, none⟩) es.length es.length es :=
  ⟨rfl, Nat.le_refl _, by unfold maxLen; omega, (alloc_rowV w _ (evals es)).has.told⟩
theorem sh_nil (w : World) : Sh w none 0 0 [] := ⟨rfl, Nat.le_refl _, Nat.zero_le _, .inl rfl⟩
def e63 : Ent := (9223372036854775808, 6)
def e11 : Ent := (1, 1)
theorem fit1 : Fit 1 5 [e63] := by decide
theorem has_at {w : World} {g i : Nat} {bs : List UInt8} {c : UInt8} (h : Has w g 0 bs) (hc : bs[i]? = some c) : w.cell? ⟨g, i, none⟩ = some (.int .u8 (c.toNat : Int)) := by
  obtain ⟨hi, e⟩ := List.getElem?_eq_some_iff.1 hc
  have := h i hi
  rw [Nat.zero_add, e] at this
  exact this
/-- The first bytes of the example's page. -/
def p20 : List UInt8 := [3, 1, 1, 0, 0, 0, 5, 128, 0, 0, 0, 0, 0, 0, 0, 0, 0, 0, 6, 0]
theorem page20 : (shelfPage 1 5 [e63]).take 20 = p20 := by decide

theorem Sh.one {w : World} {b c : Nat} (h : Sh w (some ⟨b, 0, none⟩) 1 c [e63]) : w.cell? ⟨b, 0, none⟩ = some (.int .u64 9223372036854775808) ∧ w.cell? ⟨b, 1, none⟩ = some (.int .u32 6) := by
  obtain ⟨b', o, hA, _, c1, c2⟩ := h.at (k := 0) (by decide)
  cases hA
  exact ⟨c1, c2⟩
def tenTo (k : Nat) : List Ent := (List.range k).map fun i => (UInt64.ofNat i, 1)
theorem length_ten (k : Nat) : (tenTo k).length = k := by simp [tenTo]
theorem ten_snoc (k : Nat) : tenTo k ++ [(UInt64.ofNat k, 1)] = tenTo (k + 1) := by simp [tenTo, List.range_succ]
theorem ten_num (k : Nat) (h : k ≤ 10) : ((UInt64.ofNat k).toNat : Int) = (k : Int) := by simp; omega
theorem lit_one (w : World) (k : Nat) (h : k ≤ 10) : HasV (w.alloc (.cells #[.int .u64 (k : Int), .int .u32 1] 40)) w.heap.size 0 (evals [(UInt64.ofNat k, 1)]) := by
  have := (alloc_rowV w 40 (evals [(UInt64.ofNat k, 1)])).has
  simp only [evals] at this ⊢
  rw [ten_num k h] at this ⊢
  exact this
/-- The example's shelf in its variable, behind whatever was made since. -/
structure Aw (w0 w : World) : Prop where
  below : Below w0.heap.size w0 w
  box : Box w (w0.heap.size + 1) 1 5 (some ⟨w0.heap.size, 0, none⟩) 1 1
  sh : Sh w (some ⟨w0.heap.size, 0, none⟩) 1 1 [e63]
theorem Aw.grow {w0 w w' : World} (h : Aw w0 w) (k : Below w.heap.size w w') : Aw w0 w' := ⟨h.below.trans (k.mono h.below.size), h.box.below k h.box.lt, h.sh.below k⟩

theorem wrong1 (w : World) : Calls Try.prog 18 #[.int .u8 1, .int .u32 0, .slice (some ⟨w.heap.size, 0, none⟩) 2 2] ((w.alloc (.cells #[.int .u64 1, .int .u32 1, .int .u64 9223372036854775808, .int .u32 6] 40)).drew) fun e w' => e = .returned (.bool true) ∧ Below w.heap.size w w' :=
  (wrong_any 1 0 ((lit_sh w [e11, e63] (by decide)).still (Still.drew _)) (by decide)).mono fun e w' ⟨h, b⟩ => ⟨h, ((Below.refl _ _).alloc (Nat.le_refl _) _).trans (((Still.drew _).below _).trans (b.mono (by simp)))⟩
theorem wrong2 (w : World) : Calls Try.prog 18 #[.int .u8 65, .int .u32 0, .slice none 0 0] w fun e w' => e = .returned (.bool true) ∧ Below w.heap.size w w' := wrong_any 65 0 (sh_nil w) (by decide)
theorem wrong3 (w : World) : Calls Try.prog 18 #[.int .u8 0, .int .u32 4096, .slice none 0 0] w fun e w' => e = .returned (.bool true) ∧ Below w.heap.size w w' := wrong_any 0 4096 (sh_nil w) (by decide)
theorem wrong4 (w : World) : Calls Try.prog 18 #[.int .u8 0, .int .u32 0, .slice (some ⟨w.heap.size, 0, none⟩) 1 1] (w.alloc (.cells #[.int .u64 1, .int .u32 0] 40)) fun e w' => e = .returned (.bool true) ∧ Below w.heap.size w w' :=
  (wrong_any 0 0 (lit_sh w [(1, 0)] (by decide)) (by decide)).mono fun e w' ⟨h, b⟩ => ⟨h, ((Below.refl _ _).alloc (Nat.le_refl _) _).trans (b.mono (by simp))⟩
theorem wrong5 (w : World) : Calls Try.prog 18 #[.int .u8 0, .int .u32 0, .slice (some ⟨w.heap.size, 0, none⟩) 2 2] (w.alloc (.cells #[.int .u64 1, .int .u32 1, .int .u64 1, .int .u32 1] 40)) fun e w' => e = .returned (.bool true) ∧ Below w.heap.size w w' :=
  (wrong_any 0 0 (lit_sh w [e11, e11] (by decide)) (by decide)).mono fun e w' ⟨h, b⟩ => ⟨h, ((Below.refl _ _).alloc (Nat.le_refl _) _).trans (b.mono (by simp))⟩
theorem wrong6 (w : World) (A : Option Addr) (c : Nat) (h : Sh w A 10 c (tenTo 10)) : Calls Try.prog 18 #[.int .u8 0, .int .u32 0, .slice A 10 c] w fun e w' => e = .returned (.bool true) ∧ Below w.heap.size w w' := wrong_any 0 0 h (by decide)
theorem right7 (w : World) : Calls Try.prog 16 #[.agg #[.int .u8 64, .int .u32 0, .slice none 0 0]] w fun e w' => e = .returned (.bool true) ∧ Below w.heap.size w w' := by
  have := right_any 64 0 (sh_nil w)
  rwa [decide_eq_true (show Fit 64 0 [] by decide)] at this

set_option maxRecDepth 100000 in
set_option maxHeartbeats 2000000 in
theorem awake_any (w : World) : Calls Try.prog 8 #[] w fun e w' => e = .returned (.bool true) ∧ Below w.heap.size w w' := by
  have S1 := lit_sh w [e63] (by decide)
  change Sh (w.alloc (.cells #[.int .u64 9223372036854775808, .int .u32 6] 40)) (some ⟨w.heap.size, 0, none⟩) 1 1 [e63] at S1
  have b1 := (Below.refl w.heap.size w).alloc (Nat.le_refl _) (.cells #[.int .u64 9223372036854775808, .int .u32 6] 40)
  go_enter Try.func8, Try.ntmps8
  go_wp2_with fail
  have hs1 : (w.alloc (.cells #[.int .u64 9223372036854775808, .int .u32 6] 40)).heap.size = w.heap.size + 1 := by simp
  generalize w.alloc (.cells #[.int .u64 9223372036854775808, .int .u32 6] 40) = w1 at *
  have X2 := box_new (T := 25) w1 1 5 (some ⟨w.heap.size, 0, none⟩) 1 1
  change Box (w1.alloc (.cells #[.int .u8 1, .int .u32 5, .slice (some ⟨w.heap.size, 0, none⟩) 1 1] 25)) _ _ _ _ _ _ at X2
  have b2 := (Below.refl w1.heap.size w1).alloc (Nat.le_refl _) (.cells #[.int .u8 1, .int .u32 5, .slice (some ⟨w.heap.size, 0, none⟩) 1 1] 25)
  generalize w1.alloc (.cells #[.int .u8 1, .int .u32 5, .slice (some ⟨w.heap.size, 0, none⟩) 1 1] 25) = w2 at *
  rw [hs1] at X2
  have A2 := Lib.hid (show Aw w w2 from ⟨b1.trans (b2.mono (by omega)), X2, S1.below b2⟩)
  clear S1 b1 b2 X2 hs1
  refine (encode_yes 1 5 A2.out.sh fit1).mono ?_
  rintro e w3 ⟨g1, rfl, F3⟩
  have A3 := Lib.hid (A2.out.grow F3.below)
  have P3 := Lib.hid (show Has w3 g1 0 (shelfPage 1 5 [e63]) from F3.has)
  have T20 := P3.out.pre 20
  rw [page20] at T20
  have H3 := Lib.hid (And.intro F3.hi T20)
  have L20 := alloc_row w3 p20
  change Row (w3.alloc (.cells #[.int .u8 3, .int .u8 1, .int .u8 1, .int .u8 0, .int .u8 0, .int .u8 0, .int .u8 5, .int .u8 128, .int .u8 0, .int .u8 0, .int .u8 0, .int .u8 0, .int .u8 0, .int .u8 0, .int .u8 0, .int .u8 0, .int .u8 0, .int .u8 0, .int .u8 6, .int .u8 0] 5)) _ _ at L20
  have b4 := (Below.refl w3.heap.size w3).alloc (Nat.le_refl _) (.cells #[.int .u8 3, .int .u8 1, .int .u8 1, .int .u8 0, .int .u8 0, .int .u8 0, .int .u8 5, .int .u8 128, .int .u8 0, .int .u8 0, .int .u8 0, .int .u8 0, .int .u8 0, .int .u8 0, .int .u8 0, .int .u8 0, .int .u8 0, .int .u8 0, .int .u8 6, .int .u8 0] 5)
  have A4 := Lib.hid (A3.out.grow b4)
  have P4 := Lib.hid (P3.out.below H3.out.1 b4)
  have Q4 := Lib.hid (And.intro (H3.out.2.below H3.out.1 b4) L20.has)
  clear A2 A3 F3 T20 P3 H3 L20 b4
  go_wp2_with fail
  refine (equal_yes _ _ 20 20 128 20 p20 p20 rfl rfl rfl _ Q4.out.1.told Q4.out.2.told).mono ?_
  rintro e w' ⟨rfl, rfl⟩
  clear Q4
  generalize w3.alloc (.cells #[.int .u8 3, .int .u8 1, .int .u8 1, .int .u8 0, .int .u8 0, .int .u8 0, .int .u8 5, .int .u8 128, .int .u8 0, .int .u8 0, .int .u8 0, .int .u8 0, .int .u8 0, .int .u8 0, .int .u8 0, .int .u8 0, .int .u8 0, .int .u8 0, .int .u8 6, .int .u8 0] 5) = w4 at *
  go_wp2_with fail
  refine (decode_page fit1 1 rfl g1 0 128 _ P4.out (by decide) (by decide)).mono ?_
  rintro e w5 ⟨g2, D⟩
  obtain rfl := D.e
  have A5 := Lib.hid (A4.out.grow D.below)
  have D5 := Lib.hid D.sh
  clear D P4 A4
  have X6 := box_new (T := 25) w5 1 5 (some ⟨g2, 0, none⟩) 1 1
  change Box (w5.alloc (.cells #[.int .u8 1, .int .u32 5, .slice (some ⟨g2, 0, none⟩) 1 1] 25)) _ _ _ _ _ _ at X6
  have b6 := (Below.refl w5.heap.size w5).alloc (Nat.le_refl _) (.cells #[.int .u8 1, .int .u32 5, .slice (some ⟨g2, 0, none⟩) 1 1] 25)
  have A6 := Lib.hid (A5.out.grow b6)
  have D6 := Lib.hid (D5.out.below b6)
  obtain ⟨x0, x1, x2, _⟩ := A6.out.box
  obtain ⟨y0, y1, y2, _⟩ := X6
  clear b6 A5 D5
  go_wp2_with fail
  generalize w5.alloc (.cells #[.int .u8 1, .int .u32 5, .slice (some ⟨g2, 0, none⟩) 1 1] 25) = w6 at *
  refine (eqshelves_any 1 1 5 5 A6.out.sh D6.out).mono ?_
  rintro e w7 ⟨rfl, B7⟩
  rw [decide_eq_true (show Same 1 1 5 5 [e63] [e63] from ⟨rfl, rfl, rfl⟩)]
  have A7 := Lib.hid (A6.out.grow B7)
  clear x0 x1 x2 y0 y1 y2 A6 D6 B7
  go_wp2_with fail
  have A7' := A7.out
  have O7 := Lib.hid (OwnE.nil w7 w7.heap.size)
  go_loopw [6, 44] (fun v i wr => ∃ k : Nat, k ≤ 10 ∧ i = .int .u64 (k : Int) ∧ Hid (OwnE wr w7.heap.size v (tenTo k)) ∧ Hid (Below w7.heap.size w7 wr)) (fun _ i _ => 10 - (intOf i).toNat)
  case atStart => exact ⟨0, by omega, rfl, O7, Lib.hid (Below.refl _ _)⟩
  case round =>
    obtain ⟨k, hk, rfl, HO, HB⟩ := hrel
    clear O7
    by_cases hlt : k < 10
    · have hkn := ten_num k (by omega)
      have S8 := lit_one wr k (by omega)
      have b8 := (Below.refl wr.heap.size wr).alloc (Nat.le_refl _) (.cells #[.int .u64 (k : Int), .int .u32 1] 40)
      have O8 := HO.out.kept b8 (Nat.le_refl _)
      have B8 := HB.out.trans (b8.mono HB.out.size)
      obtain ⟨v', w', hrun, hown, hb⟩ := run_append_ents (wr.alloc (.cells #[.int .u64 (k : Int), .int .u32 1] 40)) 23 w7.heap.size u6 (tenTo k) [(UInt64.ofNat k, 1)] O8 ⟨wr.heap.size, 0, none⟩ 1 1 rfl S8 rfl (by rw [length_ten]; simp; omega) B8.size
      have HO2 := Lib.hid hown
      have HB2 := Lib.hid (B8.trans hb)
      clear S8 b8 O8 B8 hown hb HO HB hkn
      go_wp2_with (at_builtin; refine wpList_append_run rfl (.tmp 47) (.tmp 50) 23 rfl _ _ rfl rfl _ _ hrun ?_)
      go_roundw
      case rel => exact ⟨k + 1, by omega, by go_num, Lib.hid (by rw [← ten_snoc]; exact HO2.out), HB2⟩
      case measure => simp [intOf]; omega
    · obtain rfl : k = 10 := by omega
      obtain ⟨A, c, rfl, ST⟩ := HO.out.slice
      have AT := Lib.hid (And.intro (A7.out.grow HB.out) ST)
      have A10 := Lib.hid (show Aw w (wr.alloc (.cells #[.int .u64 1, .int .u32 1] 40)) from AT.out.1.grow ((Below.refl _ _).alloc (Nat.le_refl _) _))
      have S10 := Lib.hid (ST.below ((Below.refl _ _).alloc (Nat.le_refl _) (.cells #[.int .u64 1, .int .u32 1] 40)))
      have E10 := Lib.hid (alloc_rowV wr 40 (evals [e11]))
      change Hid (RowV (wr.alloc (.cells #[.int .u64 1, .int .u32 1] 40)) wr.heap.size 40 (evals [e11])) at E10
      rw [length_ten]
      clear HO HB ST AT A7
      go_wp2_with fail
      generalize wr.alloc (.cells #[.int .u64 1, .int .u32 1] 40) = w10 at *
      generalize wr.heap.size = z at *
      have KS := Lib.hid (show ∀ w', Below w10.heap.size w10 w' → (w'.cell? ⟨z, 0, none⟩ = some (.int .u64 1) ∧ w'.cell? ⟨z, 1, none⟩ = some (.int .u32 1) ∧ w'.cell? ⟨w.heap.size + 1, 2, none⟩ = some (.slice (some ⟨w.heap.size, 0, none⟩) 1 1) ∧ w'.cell? ⟨w.heap.size, 0, none⟩ = some (.int .u64 9223372036854775808) ∧ w'.cell? ⟨w.heap.size, 1, none⟩ = some (.int .u32 6)) from fun w' k => let E := E10.out.below E10.out.lt k; let S := A10.out.grow k; ⟨E.cellAt (i := 0) rfl, E.cellAt (i := 1) rfl, S.box.c2, S.sh.one.1, S.sh.one.2⟩)
      obtain ⟨k0, k1, k2, k3, k4⟩ := KS.out _ (Below.refl _ _)
      go_region_held3 (fun w' => w'.cell? ⟨z, 0, none⟩ = some (.int .u64 1) ∧ w'.cell? ⟨z, 1, none⟩ = some (.int .u32 1) ∧ w'.cell? ⟨w.heap.size + 1, 2, none⟩ = some (.slice (some ⟨w.heap.size, 0, none⟩) 1 1) ∧ w'.cell? ⟨w.heap.size, 0, none⟩ = some (.int .u64 9223372036854775808) ∧ w'.cell? ⟨w.heap.size, 1, none⟩ = some (.int .u32 6)) ((refine KS.out _ ?_; (repeat' (first | with_reducible exact Below.refl _ _ | with_reducible exact HQ7.out | with_reducible exact HQ6.out | with_reducible exact HQ5.out | with_reducible exact HQ4.out | with_reducible exact HQ3.out | with_reducible exact HQ2.out | with_reducible exact HQ1.out | with_reducible refine Below.drew ?_ | with_reducible refine Below.alloc ?_ (by first | exact Nat.le_refl _ | (simp; done) | (have := HQ7.out.size; simp at this ⊢; omega) | (have := HQ6.out.size; simp at this ⊢; omega) | (have := HQ5.out.size; simp at this ⊢; omega) | (have := HQ4.out.size; simp at this ⊢; omega) | (have := HQ3.out.size; simp at this ⊢; omega) | (have := HQ2.out.size; simp at this ⊢; omega) | (have := HQ1.out.size; simp at this ⊢; omega)) _)))) (first | (have _t := HQ6; go_at_call 16; refine (right7 _).mono ?_; rintro e q7 ⟨rfl, Br⟩; have HQ7 := Lib.hid (show Below w10.heap.size w10 q7 from Below.trans (by (repeat' (first | with_reducible exact Below.refl _ _ | with_reducible exact HQ7.out | with_reducible exact HQ6.out | with_reducible exact HQ5.out | with_reducible exact HQ4.out | with_reducible exact HQ3.out | with_reducible exact HQ2.out | with_reducible exact HQ1.out | with_reducible refine Below.drew ?_ | with_reducible refine Below.alloc ?_ (by first | exact Nat.le_refl _ | (simp; done) | (have := HQ7.out.size; simp at this ⊢; omega) | (have := HQ6.out.size; simp at this ⊢; omega) | (have := HQ5.out.size; simp at this ⊢; omega) | (have := HQ4.out.size; simp at this ⊢; omega) | (have := HQ3.out.size; simp at this ⊢; omega) | (have := HQ2.out.size; simp at this ⊢; omega) | (have := HQ1.out.size; simp at this ⊢; omega)) _))) (Br.mono (Below.size (B := w10.heap.size) (w := w10) (by (repeat' (first | with_reducible exact Below.refl _ _ | with_reducible exact HQ7.out | with_reducible exact HQ6.out | with_reducible exact HQ5.out | with_reducible exact HQ4.out | with_reducible exact HQ3.out | with_reducible exact HQ2.out | with_reducible exact HQ1.out | with_reducible refine Below.drew ?_ | with_reducible refine Below.alloc ?_ (by first | exact Nat.le_refl _ | (simp; done) | (have := HQ7.out.size; simp at this ⊢; omega) | (have := HQ6.out.size; simp at this ⊢; omega) | (have := HQ5.out.size; simp at this ⊢; omega) | (have := HQ4.out.size; simp at this ⊢; omega) | (have := HQ3.out.size; simp at this ⊢; omega) | (have := HQ2.out.size; simp at this ⊢; omega) | (have := HQ1.out.size; simp at this ⊢; omega)) _)))))); clear Br) | (have _t := HQ5; go_at_call 18; refine (wrong6 _ A c (S10.out.below (by (repeat' (first | with_reducible exact Below.refl _ _ | with_reducible exact HQ7.out | with_reducible exact HQ6.out | with_reducible exact HQ5.out | with_reducible exact HQ4.out | with_reducible exact HQ3.out | with_reducible exact HQ2.out | with_reducible exact HQ1.out | with_reducible refine Below.drew ?_ | with_reducible refine Below.alloc ?_ (by first | exact Nat.le_refl _ | (simp; done) | (have := HQ7.out.size; simp at this ⊢; omega) | (have := HQ6.out.size; simp at this ⊢; omega) | (have := HQ5.out.size; simp at this ⊢; omega) | (have := HQ4.out.size; simp at this ⊢; omega) | (have := HQ3.out.size; simp at this ⊢; omega) | (have := HQ2.out.size; simp at this ⊢; omega) | (have := HQ1.out.size; simp at this ⊢; omega)) _))))).mono ?_; rintro e q6 ⟨rfl, Br⟩; have HQ6 := Lib.hid (show Below w10.heap.size w10 q6 from Below.trans (by (repeat' (first | with_reducible exact Below.refl _ _ | with_reducible exact HQ7.out | with_reducible exact HQ6.out | with_reducible exact HQ5.out | with_reducible exact HQ4.out | with_reducible exact HQ3.out | with_reducible exact HQ2.out | with_reducible exact HQ1.out | with_reducible refine Below.drew ?_ | with_reducible refine Below.alloc ?_ (by first | exact Nat.le_refl _ | (simp; done) | (have := HQ7.out.size; simp at this ⊢; omega) | (have := HQ6.out.size; simp at this ⊢; omega) | (have := HQ5.out.size; simp at this ⊢; omega) | (have := HQ4.out.size; simp at this ⊢; omega) | (have := HQ3.out.size; simp at this ⊢; omega) | (have := HQ2.out.size; simp at this ⊢; omega) | (have := HQ1.out.size; simp at this ⊢; omega)) _))) (Br.mono (Below.size (B := w10.heap.size) (w := w10) (by (repeat' (first | with_reducible exact Below.refl _ _ | with_reducible exact HQ7.out | with_reducible exact HQ6.out | with_reducible exact HQ5.out | with_reducible exact HQ4.out | with_reducible exact HQ3.out | with_reducible exact HQ2.out | with_reducible exact HQ1.out | with_reducible refine Below.drew ?_ | with_reducible refine Below.alloc ?_ (by first | exact Nat.le_refl _ | (simp; done) | (have := HQ7.out.size; simp at this ⊢; omega) | (have := HQ6.out.size; simp at this ⊢; omega) | (have := HQ5.out.size; simp at this ⊢; omega) | (have := HQ4.out.size; simp at this ⊢; omega) | (have := HQ3.out.size; simp at this ⊢; omega) | (have := HQ2.out.size; simp at this ⊢; omega) | (have := HQ1.out.size; simp at this ⊢; omega)) _)))))); clear Br) | (have _t := HQ4; go_at_call 18; refine (wrong5 _).mono ?_; rintro e q5 ⟨rfl, Br⟩; have HQ5 := Lib.hid (show Below w10.heap.size w10 q5 from Below.trans (by (repeat' (first | with_reducible exact Below.refl _ _ | with_reducible exact HQ7.out | with_reducible exact HQ6.out | with_reducible exact HQ5.out | with_reducible exact HQ4.out | with_reducible exact HQ3.out | with_reducible exact HQ2.out | with_reducible exact HQ1.out | with_reducible refine Below.drew ?_ | with_reducible refine Below.alloc ?_ (by first | exact Nat.le_refl _ | (simp; done) | (have := HQ7.out.size; simp at this ⊢; omega) | (have := HQ6.out.size; simp at this ⊢; omega) | (have := HQ5.out.size; simp at this ⊢; omega) | (have := HQ4.out.size; simp at this ⊢; omega) | (have := HQ3.out.size; simp at this ⊢; omega) | (have := HQ2.out.size; simp at this ⊢; omega) | (have := HQ1.out.size; simp at this ⊢; omega)) _))) (Br.mono (Below.size (B := w10.heap.size) (w := w10) (by (repeat' (first | with_reducible exact Below.refl _ _ | with_reducible exact HQ7.out | with_reducible exact HQ6.out | with_reducible exact HQ5.out | with_reducible exact HQ4.out | with_reducible exact HQ3.out | with_reducible exact HQ2.out | with_reducible exact HQ1.out | with_reducible refine Below.drew ?_ | with_reducible refine Below.alloc ?_ (by first | exact Nat.le_refl _ | (simp; done) | (have := HQ7.out.size; simp at this ⊢; omega) | (have := HQ6.out.size; simp at this ⊢; omega) | (have := HQ5.out.size; simp at this ⊢; omega) | (have := HQ4.out.size; simp at this ⊢; omega) | (have := HQ3.out.size; simp at this ⊢; omega) | (have := HQ2.out.size; simp at this ⊢; omega) | (have := HQ1.out.size; simp at this ⊢; omega)) _)))))); clear Br) | (have _t := HQ3; go_at_call 18; refine (wrong4 _).mono ?_; rintro e q4 ⟨rfl, Br⟩; have HQ4 := Lib.hid (show Below w10.heap.size w10 q4 from Below.trans (by (repeat' (first | with_reducible exact Below.refl _ _ | with_reducible exact HQ7.out | with_reducible exact HQ6.out | with_reducible exact HQ5.out | with_reducible exact HQ4.out | with_reducible exact HQ3.out | with_reducible exact HQ2.out | with_reducible exact HQ1.out | with_reducible refine Below.drew ?_ | with_reducible refine Below.alloc ?_ (by first | exact Nat.le_refl _ | (simp; done) | (have := HQ7.out.size; simp at this ⊢; omega) | (have := HQ6.out.size; simp at this ⊢; omega) | (have := HQ5.out.size; simp at this ⊢; omega) | (have := HQ4.out.size; simp at this ⊢; omega) | (have := HQ3.out.size; simp at this ⊢; omega) | (have := HQ2.out.size; simp at this ⊢; omega) | (have := HQ1.out.size; simp at this ⊢; omega)) _))) (Br.mono (Below.size (B := w10.heap.size) (w := w10) (by (repeat' (first | with_reducible exact Below.refl _ _ | with_reducible exact HQ7.out | with_reducible exact HQ6.out | with_reducible exact HQ5.out | with_reducible exact HQ4.out | with_reducible exact HQ3.out | with_reducible exact HQ2.out | with_reducible exact HQ1.out | with_reducible refine Below.drew ?_ | with_reducible refine Below.alloc ?_ (by first | exact Nat.le_refl _ | (simp; done) | (have := HQ7.out.size; simp at this ⊢; omega) | (have := HQ6.out.size; simp at this ⊢; omega) | (have := HQ5.out.size; simp at this ⊢; omega) | (have := HQ4.out.size; simp at this ⊢; omega) | (have := HQ3.out.size; simp at this ⊢; omega) | (have := HQ2.out.size; simp at this ⊢; omega) | (have := HQ1.out.size; simp at this ⊢; omega)) _)))))); clear Br) | (have _t := HQ2; go_at_call 18; refine (wrong3 _).mono ?_; rintro e q3 ⟨rfl, Br⟩; have HQ3 := Lib.hid (show Below w10.heap.size w10 q3 from Below.trans (by (repeat' (first | with_reducible exact Below.refl _ _ | with_reducible exact HQ7.out | with_reducible exact HQ6.out | with_reducible exact HQ5.out | with_reducible exact HQ4.out | with_reducible exact HQ3.out | with_reducible exact HQ2.out | with_reducible exact HQ1.out | with_reducible refine Below.drew ?_ | with_reducible refine Below.alloc ?_ (by first | exact Nat.le_refl _ | (simp; done) | (have := HQ7.out.size; simp at this ⊢; omega) | (have := HQ6.out.size; simp at this ⊢; omega) | (have := HQ5.out.size; simp at this ⊢; omega) | (have := HQ4.out.size; simp at this ⊢; omega) | (have := HQ3.out.size; simp at this ⊢; omega) | (have := HQ2.out.size; simp at this ⊢; omega) | (have := HQ1.out.size; simp at this ⊢; omega)) _))) (Br.mono (Below.size (B := w10.heap.size) (w := w10) (by (repeat' (first | with_reducible exact Below.refl _ _ | with_reducible exact HQ7.out | with_reducible exact HQ6.out | with_reducible exact HQ5.out | with_reducible exact HQ4.out | with_reducible exact HQ3.out | with_reducible exact HQ2.out | with_reducible exact HQ1.out | with_reducible refine Below.drew ?_ | with_reducible refine Below.alloc ?_ (by first | exact Nat.le_refl _ | (simp; done) | (have := HQ7.out.size; simp at this ⊢; omega) | (have := HQ6.out.size; simp at this ⊢; omega) | (have := HQ5.out.size; simp at this ⊢; omega) | (have := HQ4.out.size; simp at this ⊢; omega) | (have := HQ3.out.size; simp at this ⊢; omega) | (have := HQ2.out.size; simp at this ⊢; omega) | (have := HQ1.out.size; simp at this ⊢; omega)) _)))))); clear Br) | (have _t := HQ1; go_at_call 18; refine (wrong2 _).mono ?_; rintro e q2 ⟨rfl, Br⟩; have HQ2 := Lib.hid (show Below w10.heap.size w10 q2 from Below.trans (by (repeat' (first | with_reducible exact Below.refl _ _ | with_reducible exact HQ7.out | with_reducible exact HQ6.out | with_reducible exact HQ5.out | with_reducible exact HQ4.out | with_reducible exact HQ3.out | with_reducible exact HQ2.out | with_reducible exact HQ1.out | with_reducible refine Below.drew ?_ | with_reducible refine Below.alloc ?_ (by first | exact Nat.le_refl _ | (simp; done) | (have := HQ7.out.size; simp at this ⊢; omega) | (have := HQ6.out.size; simp at this ⊢; omega) | (have := HQ5.out.size; simp at this ⊢; omega) | (have := HQ4.out.size; simp at this ⊢; omega) | (have := HQ3.out.size; simp at this ⊢; omega) | (have := HQ2.out.size; simp at this ⊢; omega) | (have := HQ1.out.size; simp at this ⊢; omega)) _))) (Br.mono (Below.size (B := w10.heap.size) (w := w10) (by (repeat' (first | with_reducible exact Below.refl _ _ | with_reducible exact HQ7.out | with_reducible exact HQ6.out | with_reducible exact HQ5.out | with_reducible exact HQ4.out | with_reducible exact HQ3.out | with_reducible exact HQ2.out | with_reducible exact HQ1.out | with_reducible refine Below.drew ?_ | with_reducible refine Below.alloc ?_ (by first | exact Nat.le_refl _ | (simp; done) | (have := HQ7.out.size; simp at this ⊢; omega) | (have := HQ6.out.size; simp at this ⊢; omega) | (have := HQ5.out.size; simp at this ⊢; omega) | (have := HQ4.out.size; simp at this ⊢; omega) | (have := HQ3.out.size; simp at this ⊢; omega) | (have := HQ2.out.size; simp at this ⊢; omega) | (have := HQ1.out.size; simp at this ⊢; omega)) _)))))); clear Br) | (go_at_call 18; refine (wrong1 _).mono ?_; rintro e q1 ⟨rfl, Br⟩; have HQ1 := Lib.hid (show Below w10.heap.size w10 q1 from Below.trans (by (repeat' (first | with_reducible exact Below.refl _ _ | with_reducible exact HQ7.out | with_reducible exact HQ6.out | with_reducible exact HQ5.out | with_reducible exact HQ4.out | with_reducible exact HQ3.out | with_reducible exact HQ2.out | with_reducible exact HQ1.out | with_reducible refine Below.drew ?_ | with_reducible refine Below.alloc ?_ (by first | exact Nat.le_refl _ | (simp; done) | (have := HQ7.out.size; simp at this ⊢; omega) | (have := HQ6.out.size; simp at this ⊢; omega) | (have := HQ5.out.size; simp at this ⊢; omega) | (have := HQ4.out.size; simp at this ⊢; omega) | (have := HQ3.out.size; simp at this ⊢; omega) | (have := HQ2.out.size; simp at this ⊢; omega) | (have := HQ1.out.size; simp at this ⊢; omega)) _))) (Br.mono (Below.size (B := w10.heap.size) (w := w10) (by (repeat' (first | with_reducible exact Below.refl _ _ | with_reducible exact HQ7.out | with_reducible exact HQ6.out | with_reducible exact HQ5.out | with_reducible exact HQ4.out | with_reducible exact HQ3.out | with_reducible exact HQ2.out | with_reducible exact HQ1.out | with_reducible refine Below.drew ?_ | with_reducible refine Below.alloc ?_ (by first | exact Nat.le_refl _ | (simp; done) | (have := HQ7.out.size; simp at this ⊢; omega) | (have := HQ6.out.size; simp at this ⊢; omega) | (have := HQ5.out.size; simp at this ⊢; omega) | (have := HQ4.out.size; simp at this ⊢; omega) | (have := HQ3.out.size; simp at this ⊢; omega) | (have := HQ2.out.size; simp at this ⊢; omega) | (have := HQ1.out.size; simp at this ⊢; omega)) _)))))); clear Br) | fail)
      all_goals
        go_wp2_with fail
        go_ret
        exact ⟨rfl, A10.out.below.trans (HQ7.out.mono A10.out.below.size)⟩
end Go.Proofs.Ytamibckpkhpmfaa.Sf
