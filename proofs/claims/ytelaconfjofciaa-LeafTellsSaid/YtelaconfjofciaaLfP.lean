/- The walk of the statement LeafPages. -/
import Derived.Test.YtelaconfjofciaaLfO
namespace Go.Proofs.Ytelaconfjofciaa.Lf
open Go.RowKit Go.Proofs.Ytelaconfjofciaa.Oct
set_option linter.unusedVariables false

/-- A slice of bytes that is told, with its lengths. -/
structure Bits (w : World) (A : Option Addr) (len cap : Nat) (bs : List UInt8) : Prop where
  hl : bs.length = len
  le : len ≤ cap
  hm : cap ≤ maxLen
  t : Oct.Told w A bs
theorem told_below {w w' : World} {A : Option Addr} {bs : List UInt8} (h : Oct.Told w A bs) (k : Below w.heap.size w w') : Oct.Told w' A bs := by
  rcases h with h | ⟨b, o, rfl, h⟩
  · exact .inl h
  · by_cases h0 : 0 < bs.length
    · exact .inr ⟨b, o, rfl, h.below (has_lt h h0) k⟩
    · exact .inl (List.eq_nil_of_length_eq_zero (by omega))
theorem Bits.below {w w' : World} {A : Option Addr} {len cap : Nat} {bs : List UInt8} (h : Bits w A len cap bs) (k : Below w.heap.size w w') : Bits w' A len cap bs := ⟨h.hl, h.le, h.hm, told_below h.t k⟩

set_option maxRecDepth 100000 in
set_option maxHeartbeats 2000000 in
theorem lpages_walk (a0 : Int) (a1 : Option Addr) (len1 cap1 : Nat) (z1 : List Int) (w : World) (w0 : (Lit.int .u8 a0).wf = true) (w1 : IsRow .u8 w a1 len1 cap1 z1) :
    Calls Try.prog 5 #[.int .u8 a0, .slice a1 len1 cap1] w fun e w' => e = .returned (.bool true) ∧ Below w.heap.size w w' := by
  obtain ⟨bs, hc⟩ := came w1
  obtain ⟨kind, rfl⟩ := u8_of w0
  have HB := Lib.hid (show Bits w a1 len1 cap1 bs from ⟨hc.hlen, hc.le, hc.hcap, hc.told⟩)
  have hm1 := hc.le
  have hm2 := hc.hcap
  clear w0 w1 hc
  by_cases h3 : 123 < len1
  · have hmx := Lib.hid (Nat.le_trans hm1 hm2)
    unfold maxLen at hm2
    go_enter Try.func5, Try.ntmps5
    go_wp2_with fail
    refine (seal_long kind a1 len1 cap1 _ h3 hmx.out).mono ?_
    rintro e w' ⟨rfl, rfl⟩
    go_wp2_with fail
    refine (awake_any _).mono ?_
    rintro e w2 ⟨rfl, B2⟩
    go_wp2_with fail
    go_ret
    exact ⟨rfl, B2⟩
  · unfold maxLen at hm2
    go_enter Try.func5, Try.ntmps5
    go_wp2_with fail
    refine (seal_any kind a1 len1 cap1 bs HB.out.hl _ (by omega) HB.out.t).mono ?_
    rintro e w2 ⟨p, rfl, F2⟩
    have G1 := Lib.hid (show Bits w2 (some ⟨p, 0, none⟩) 128 128 (page kind bs) from ⟨length_page kind bs (by rw [HB.out.hl]; omega), Nat.le_refl _, by decide, F2.has.told⟩)
    have G2 := Lib.hid (HB.out.below F2.below)
    have Y2 := Lib.hid F2.below
    clear F2
    go_upto_region 5 with (fail)
    have k3 := (Below.refl w2.heap.size w2).alloc (Nat.le_refl _) (.cells #[.slice (some ⟨p, 0, none⟩) 128 128, .slice a1 len1 cap1, .slice none 0 0] 25)
    have c0 := box_cell w2 #[.slice (some ⟨p, 0, none⟩) 128 128, .slice a1 len1 cap1, .slice none 0 0] 25 0 _ rfl
    have c1 := box_cell w2 #[.slice (some ⟨p, 0, none⟩) 128 128, .slice a1 len1 cap1, .slice none 0 0] 25 1 _ rfl
    have c2 := box_cell w2 #[.slice (some ⟨p, 0, none⟩) 128 128, .slice a1 len1 cap1, .slice none 0 0] 25 2 _ rfl
    have hlt : w2.heap.size < (w2.alloc (.cells #[.slice (some ⟨p, 0, none⟩) 128 128, .slice a1 len1 cap1, .slice none 0 0] 25)).heap.size := by simp
    have G3 := Lib.hid (show ∀ z, z < 3 → ∃ A len cap xs, (w2.alloc (.cells #[.slice (some ⟨p, 0, none⟩) 128 128, .slice a1 len1 cap1, .slice none 0 0] 25)).cell? ⟨w2.heap.size, z, none⟩ = some (.slice A len cap) ∧ Bits (w2.alloc (.cells #[.slice (some ⟨p, 0, none⟩) 128 128, .slice a1 len1 cap1, .slice none 0 0] 25)) A len cap xs from fun z hz => by
      rcases (by omega : z = 0 ∨ z = 1 ∨ z = 2) with rfl | rfl | rfl
      · exact ⟨_, _, _, _, c0, G1.out.below k3⟩
      · exact ⟨_, _, _, _, c1, G2.out.below k3⟩
      · exact ⟨_, _, _, [], c2, rfl, Nat.le_refl _, Nat.zero_le _, .inl rfl⟩)
    have Y3 := Lib.hid (Y2.out.trans (k3.mono Y2.out.size))
    generalize w2.alloc (.cells #[.slice (some ⟨p, 0, none⟩) 128 128, .slice a1 len1 cap1, .slice none 0 0] 25) = w3 at *
    clear k3 c0 c1 c2 G1 G2 Y2
    go_wp2_with fail
    go_loopw [26] (fun i wr => ∃ z : Nat, z ≤ 3 ∧ i = .int .i64 (z : Int) ∧ Hid (Below w3.heap.size w3 wr)) (fun i _ => 3 - (intOf i).toNat)
    case atStart => exact ⟨0, by omega, rfl, Lib.hid (Below.refl _ _)⟩
    case round =>
      obtain ⟨z, hz, rfl, HW⟩ := hrel
      by_cases hlt3 : z < 3
      · obtain ⟨A, len, cap, xs, hcell, hbits⟩ := G3.out z hlt3
        have hcz := (HW.out.cell (p := ⟨w2.heap.size, z, none⟩) hlt).trans hcell
        have HX := Lib.hid (hbits.below HW.out)
        have hzi : (z : Int) < 3 := by omega
        have hz0 : (0 : Int) ≤ (z : Int) := by omega
        clear hcell hbits
        go_wp2_with fail
        refine (decode_any A len cap xs HX.out.hl HX.out.le HX.out.hm _ HX.out.t).mono ?_
        rintro e w4 (⟨hh, g, g', D⟩ | ⟨hh, rfl, B4⟩)
        · obtain rfl := D.e
          have HH := Lib.hid hh
          have X4 := Lib.hid (HX.out.below D.below)
          have W4 := Lib.hid (HW.out.trans (D.below.mono HW.out.size))
          have k5 := (Below.refl w4.heap.size w4).alloc (Nat.le_refl _) (.cells #[.bool (leafIn xs), .slice (some ⟨g, 0, none⟩) (keysIn xs).length (keysIn xs).length, .slice (some ⟨g', 0, none⟩) (keysIn xs).length (keysIn xs).length] 24)
          have V5 := Lib.hid (var_new w4 (leafIn xs) (some ⟨g, 0, none⟩) (keysIn xs).length (keysIn xs).length (some ⟨g', 0, none⟩) (keysIn xs).length (keysIn xs).length)
          have hk7 := hh.2.2.2.1.1
          have N5 := Lib.hid ((show Nd w4 (some ⟨g, 0, none⟩) (keysIn xs).length (keysIn xs).length (some ⟨g', 0, none⟩) (keysIn xs).length (keysIn xs).length (keysIn xs) (valsIn xs) from ⟨rfl, hh.2.2.2.1.2.1, Nat.le_refl _, by unfold maxLen; omega, Nat.le_refl _, by unfold maxLen; omega, D.ks.has.told, D.vs.has.told⟩).below k5)
          have X5 := Lib.hid (X4.out.below k5)
          have W5 := Lib.hid (W4.out.trans (k5.mono W4.out.size))
          have HLX := Lib.hid (show xs.length = 128 from hh.1)
          obtain rfl : len = 128 := by rw [← HX.out.hl]; exact hh.1
          generalize hnn : (keysIn xs).length = nn at *
          have HNN := Lib.hid hnn
          clear D X4 W4 HX HW k5 hh hnn
          go_upto_region 8 with (fail)
          generalize w4.alloc (.cells #[.bool (leafIn xs), .slice (some ⟨g, 0, none⟩) nn nn, .slice (some ⟨g', 0, none⟩) nn nn] 24) = w5 at *
          obtain ⟨v0, v1, v2, vlt⟩ := V5.out
          go_wp2_with fail
          refine (encode_yes (leafIn xs) N5.out HH.out.2.2.2.1).mono ?_
          rintro e w6 ⟨g6, rfl, F6⟩
          have X6 := Lib.hid (X5.out.below F6.below)
          have N6 := Lib.hid (N5.out.below F6.below)
          have V6 := V5.out.below F6.below vlt
          have W6 := Lib.hid (W5.out.trans (F6.below.mono W5.out.size))
          have HF := Lib.hid (show Has w6 g6 0 (nodePage (leafIn xs) (keysIn xs) (valsIn xs)) from F6.has)
          rw [HH.out.2.2.2.2] at HF
          have HV6 := Lib.hid V6
          clear F6 V6 v0 v1 v2 vlt X5 N5 W5 V5
          obtain ⟨v0, v1, v2, vlt⟩ := HV6.out
          go_wp2_with fail
          refine (equal_yes _ _ 128 128 128 cap xs xs rfl HLX.out HLX.out _ HF.out.told X6.out.t).mono ?_
          rintro e w6' ⟨rfl, rfl⟩
          go_wp2_with fail
          refine (right_any (leafIn xs) N6.out (by omega) (by omega)).mono ?_
          rintro e w7 ⟨rfl, B7⟩
          rw [decide_eq_true HH.out.2.2.2.1]
          have W7 := Lib.hid (W6.out.trans (B7.mono W6.out.size))
          clear B7 v0 v1 v2 vlt
          go_wp2_with fail
          go_roundw
          case rel => exact ⟨z + 1, by omega, by go_num, Lib.hid W7.out⟩
          case measure => simp [intOf]; omega
        · have W4 := Lib.hid (HW.out.trans (B4.mono HW.out.size))
          have k5 := (Below.refl w4.heap.size w4).alloc (Nat.le_refl _) (.cells #[.bool false, .slice none 0 0, .slice none 0 0] 24)
          have W5 := Lib.hid (W4.out.trans (k5.mono W4.out.size))
          clear B4 hh k5 HX HW
          go_wp2_with fail
          refine (eqnodes_any false false (nd_nil _) (nd_nil _) (by decide) (by decide)).mono ?_
          rintro e w6 ⟨rfl, B6⟩
          have W6 := Lib.hid (W5.out.trans (B6.mono W5.out.size))
          clear B6
          go_wp2_with fail
          go_roundw
          case rel => exact ⟨z + 1, by omega, by go_num, Lib.hid W6.out⟩
          case measure => simp [intOf]; omega
      · obtain rfl : z = 3 := by omega
        go_wp2_with fail
        refine (awake_any _).mono ?_
        rintro e w4 ⟨rfl, B4⟩
        have Y4 := Y3.out.trans ((HW.out.trans (B4.mono HW.out.size)).mono Y3.out.size)
        have HY4 := Lib.hid Y4
        clear B4 Y4
        go_wp2_with fail
        go_ret
        exact ⟨rfl, HY4.out⟩
end Go.Proofs.Ytelaconfjofciaa.Lf
