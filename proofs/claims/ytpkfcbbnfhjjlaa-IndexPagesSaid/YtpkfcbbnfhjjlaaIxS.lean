/- The walk of IndexPages. -/
import Derived.Test.YtpkfcbbnfhjjlaaIxR
namespace Go.Proofs.Ytpkfcbbnfhjjlaa.Ix
open Go.RowKit Go.Proofs.Ytpkfcbbnfhjjlaa.Oct Go.Proofs.Ytpkfcbbnfhjjlaa.Sf
set_option linter.unusedVariables false

theorem told_below {w w' : World} {a : Option Addr} {bs : List UInt8} (h : Oct.Told w a bs) (k : Below w.heap.size w w') : Oct.Told w' a bs := by
  rcases h with h | ⟨b, o, rfl, h⟩
  · exact .inl h
  · by_cases h0 : 0 < bs.length
    · exact .inr ⟨b, o, rfl, h.below (has_lt h h0) k⟩
    · exact .inl (List.eq_nil_of_length_eq_zero (by omega))
theorem idx0 (x y z : Value) (w : World) : (Instr.index 41 (.agg #[x, y, z]) (.int .i64 0)).run Try.prog w = .ok x w := by
  unfold Instr.index
  simp [go_sem]
theorem idx1 (x y z : Value) (w : World) : (Instr.index 41 (.agg #[x, y, z]) (.int .i64 1)).run Try.prog w = .ok y w := by
  unfold Instr.index
  simp [go_sem]
theorem idx2 (x y z : Value) (w : World) : (Instr.index 41 (.agg #[x, y, z]) (.int .i64 2)).run Try.prog w = .ok z w := by
  unfold Instr.index
  simp [go_sem]
/-- Each of both slices of bytes. -/
def Each (w : World) (q : Nat) (j : Nat) : Prop := ∃ (a' : Option Addr) (len' cap' : Nat) (ps' : List UInt8), w.cell? ⟨q, j, none⟩ = some (.slice a' len' cap') ∧ Oct.Told w a' ps' ∧ ps'.length = len' ∧ len' ≤ cap' ∧ cap' ≤ maxLen

set_option maxRecDepth 100000 in
set_option maxHeartbeats 2000000 in
theorem pages_walk (kd as' : UInt8) (a : Option Addr) (len cap : Nat) (bs : List UInt8) (w : World) (h : Came w a len cap bs) :
    Calls Try.prog 5 #[.int .u8 (kd.toNat : Int), .int .u8 (as'.toNat : Int), .slice a len cap] w fun e w' => e = .returned (.bool true) ∧ Below w.heap.size w w' := by
  have HC := Lib.hid h
  have hcm := h.hcap
  have hle := h.le
  have hcm2 := hcm
  unfold maxLen at hcm
  clear h
  by_cases hn : len ≤ 123
  · go_enter Try.func5, Try.ntmps5
    go_wp2_with fail
    refine (seal_any kd a len cap bs HC.out.hlen w hn HC.out.told).mono ?_
    rintro e w1 ⟨g, rfl, F1⟩
    have hlb : bs.length ≤ 123 := by rw [HC.out.hlen]; exact hn
    have hpl1 := length_page kd bs hlb
    have T1 := told_below HC.out.told F1.below
    have R2 := alloc_rowV w1 23 [.slice (some ⟨g, 0, none⟩) 128 128, .slice a len cap]
    change RowV (w1.alloc (.cells #[.slice (some ⟨g, 0, none⟩) 128 128, .slice a len cap] 23)) _ _ _ at R2
    have b2 := (Below.refl w1.heap.size w1).alloc (Nat.le_refl _) (.cells #[.slice (some ⟨g, 0, none⟩) 128 128, .slice a len cap] 23)
    go_wp2_with fail
    generalize w1.alloc (.cells #[.slice (some ⟨g, 0, none⟩) 128 128, .slice a len cap] 23) = w2 at *
    obtain ⟨q, hq⟩ : ∃ q, q = w1.heap.size := ⟨_, rfl⟩
    rw [← hq] at R2 ⊢
    have hql := R2.lt
    have E0 := Lib.hid (show Each w2 q 0 from ⟨_, _, _, page kd bs, R2.cellAt rfl, (F1.has.below F1.hi b2).told, hpl1, Nat.le_refl _, by decide⟩)
    have E1 := Lib.hid (show Each w2 q 1 from ⟨_, _, _, bs, R2.cellAt rfl, told_below T1 b2, HC.out.hlen, hle, hcm2⟩)
    have HB2 := Lib.hid (F1.below.trans (b2.mono F1.below.size))
    clear R2 b2 T1 F1 hpl1 hq
    go_loopw [30] (fun i wr => ∃ j : Nat, j ≤ 2 ∧ i = .int .i64 (j : Int) ∧ Hid (Below w2.heap.size w2 wr)) (fun i _ => 2 - (intOf i).toNat)
    case atStart => exact ⟨0, by decide, rfl, Lib.hid (Below.refl _ _)⟩
    case round =>
      obtain ⟨j, hj, rfl, HBR⟩ := hrel
      by_cases hlt : j < 2
      · obtain ⟨a', len', cap', ps', hcl, htl, hpl, hlc, hcm⟩ : Each w2 q j := by
          rcases (show j = 0 ∨ j = 1 by omega) with rfl | rfl
          · exact E0.out
          · exact E1.out
        have hc := (HBR.out.cell (p := ⟨q, j, none⟩) hql).trans hcl
        have HT := Lib.hid (show ∀ w', Below w2.heap.size w2 w' → Oct.Told w' a' ps' from fun w' k => told_below htl k)
        have hj2 : (j : Int) < 2 := by omega
        have hj0 : (0 : Int) ≤ (j : Int) := by omega
        obtain ⟨wm, hwm⟩ : ∃ x, x = wr := ⟨_, rfl⟩
        subst hwm
        clear hcl htl
        go_wp2_with fail
        go_loopw [36] (fun i wv => ∃ z : Nat, z ≤ 3 ∧ i = .int .i64 (z : Int) ∧ Hid (Below w2.heap.size w2 wv)) (fun i _ => 3 - (intOf i).toNat)
        case atStart => exact ⟨0, by decide, rfl, HBR⟩
        case round =>
          obtain ⟨z, hz, rfl, HBV⟩ := hrel
          have ht := HT.out wr HBV.out
          by_cases hzt : z < 3
          · rcases (show z = 0 ∨ z = 1 ∨ z = 2 by omega) with rfl | rfl | rfl
            · have hix := idx0 (.int .u8 (as'.toNat : Int)) (.int .u8 4) (.int .u8 5) wr
              go_wp2_with fail
              refine (decode_any as' a' len' cap' ps' hpl wr ht hlc hcm).mono ?_
              rintro e w4 (⟨HH, v, rfl, O4, B4⟩ | ⟨HN, rfl, B4⟩)
              · obtain ⟨A1, c1, hv, hW4, _⟩ := OwnW.told O4
                subst hv
                have HH2 := Lib.hid HH
                have hwl := wIn_le ps'
                have hwl2 : ((wIn ps').length : Int) ≤ 61 := by omega
                have HY := Lib.hid (encode_yes as' hW4 ⟨HH.2.2.1, hwl⟩)
                have HB4 := Lib.hid (HBV.out.trans (B4.mono HBV.out.size))
                clear O4 B4 hW4 HBV HH ht
                go_wp2_with fail
                refine HY.out.mono ?_
                rintro e w5 ⟨g5, rfl, F5⟩
                have HB5 := Lib.hid (HB4.out.trans (F5.below.mono HB4.out.size))
                have HE5 := Lib.hid (equal_yes (some ⟨g5, 0, none⟩) a' 128 len' 128 cap' (idxPage as' (wIn ps')) ps' HH2.out.2.2.2 (length_idxPage as' _ hwl) hpl w5 (show Has w5 g5 0 (idxPage as' (wIn ps')) from F5.has).told (HT.out w5 HB5.out))
                clear F5 HB4 HY
                go_wp2_with fail
                refine HE5.out.mono ?_
                rintro e w' ⟨rfl, rfl⟩
                clear HE5
                go_wp2_with fail
                go_roundw
                case rel => exact ⟨1, by decide, by first | rfl | go_num, HB5⟩
                case measure => simp [intOf]
              · have HB4 := Lib.hid (HBV.out.trans (B4.mono HBV.out.size))
                clear B4 HBV HN ht
                go_wp2_with fail
                go_roundw
                case rel => exact ⟨1, by decide, by first | rfl | go_num, HB4⟩
                case measure => simp [intOf]
            · have hix := idx1 (.int .u8 (as'.toNat : Int)) (.int .u8 4) (.int .u8 5) wr
              go_wp2_with fail
              refine (decode_any 4 a' len' cap' ps' hpl wr ht hlc hcm).mono ?_
              rintro e w4 (⟨HH, v, rfl, O4, B4⟩ | ⟨HN, rfl, B4⟩)
              · obtain ⟨A1, c1, hv, hW4, _⟩ := OwnW.told O4
                subst hv
                have HH2 := Lib.hid HH
                have hwl := wIn_le ps'
                have hwl2 : ((wIn ps').length : Int) ≤ 61 := by omega
                have HY := Lib.hid (encode_yes 4 hW4 ⟨HH.2.2.1, hwl⟩)
                have HB4 := Lib.hid (HBV.out.trans (B4.mono HBV.out.size))
                clear O4 B4 hW4 HBV HH ht
                go_wp2_with fail
                refine HY.out.mono ?_
                rintro e w5 ⟨g5, rfl, F5⟩
                have HB5 := Lib.hid (HB4.out.trans (F5.below.mono HB4.out.size))
                have HE5 := Lib.hid (equal_yes (some ⟨g5, 0, none⟩) a' 128 len' 128 cap' (idxPage 4 (wIn ps')) ps' HH2.out.2.2.2 (length_idxPage 4 _ hwl) hpl w5 (show Has w5 g5 0 (idxPage 4 (wIn ps')) from F5.has).told (HT.out w5 HB5.out))
                clear F5 HB4 HY
                go_wp2_with fail
                refine HE5.out.mono ?_
                rintro e w' ⟨rfl, rfl⟩
                clear HE5
                go_wp2_with fail
                go_roundw
                case rel => exact ⟨2, by decide, by first | rfl | go_num, HB5⟩
                case measure => simp [intOf]
              · have HB4 := Lib.hid (HBV.out.trans (B4.mono HBV.out.size))
                clear B4 HBV HN ht
                go_wp2_with fail
                go_roundw
                case rel => exact ⟨2, by decide, by first | rfl | go_num, HB4⟩
                case measure => simp [intOf]
            · have hix := idx2 (.int .u8 (as'.toNat : Int)) (.int .u8 4) (.int .u8 5) wr
              go_wp2_with fail
              refine (decode_any 5 a' len' cap' ps' hpl wr ht hlc hcm).mono ?_
              rintro e w4 (⟨HH, v, rfl, O4, B4⟩ | ⟨HN, rfl, B4⟩)
              · obtain ⟨A1, c1, hv, hW4, _⟩ := OwnW.told O4
                subst hv
                have HH2 := Lib.hid HH
                have hwl := wIn_le ps'
                have hwl2 : ((wIn ps').length : Int) ≤ 61 := by omega
                have HY := Lib.hid (encode_yes 5 hW4 ⟨HH.2.2.1, hwl⟩)
                have HB4 := Lib.hid (HBV.out.trans (B4.mono HBV.out.size))
                clear O4 B4 hW4 HBV HH ht
                go_wp2_with fail
                refine HY.out.mono ?_
                rintro e w5 ⟨g5, rfl, F5⟩
                have HB5 := Lib.hid (HB4.out.trans (F5.below.mono HB4.out.size))
                have HE5 := Lib.hid (equal_yes (some ⟨g5, 0, none⟩) a' 128 len' 128 cap' (idxPage 5 (wIn ps')) ps' HH2.out.2.2.2 (length_idxPage 5 _ hwl) hpl w5 (show Has w5 g5 0 (idxPage 5 (wIn ps')) from F5.has).told (HT.out w5 HB5.out))
                clear F5 HB4 HY
                go_wp2_with fail
                refine HE5.out.mono ?_
                rintro e w' ⟨rfl, rfl⟩
                clear HE5
                go_wp2_with fail
                go_roundw
                case rel => exact ⟨3, by decide, by first | rfl | go_num, HB5⟩
                case measure => simp [intOf]
              · have HB4 := Lib.hid (HBV.out.trans (B4.mono HBV.out.size))
                clear B4 HBV HN ht
                go_wp2_with fail
                go_roundw
                case rel => exact ⟨3, by decide, by first | rfl | go_num, HB4⟩
                case measure => simp [intOf]
          · obtain rfl : z = 3 := by omega
            clear ht
            go_wp2_with fail
            go_roundw
            case rel => exact ⟨j + 1, by omega, by go_num, HBV⟩
            case measure => simp [intOf]; omega
      · obtain rfl : j = 2 := by omega
        go_wp2_with fail
        refine (awake_any _).mono ?_
        rintro e u2 ⟨rfl, B11⟩
        have HB3 := Lib.hid (HB2.out.trans (HBR.out.mono HB2.out.size))
        have HB11 := Lib.hid (HB3.out.trans (B11.mono HB3.out.size))
        clear B11
        go_wp2_with fail
        go_ret
        exact ⟨rfl, HB11.out⟩
  · go_enter Try.func5, Try.ntmps5
    go_wp2_with fail
    refine (seal_long kd a len cap w (by omega) (by unfold maxLen; omega)).mono ?_
    rintro e w' ⟨rfl, rfl⟩
    go_wp2_with fail
    refine (awake_any _).mono ?_
    rintro e u2 ⟨rfl, B11⟩
    go_wp2_with fail
    go_ret
    exact ⟨rfl, B11⟩

theorem pages_walk' (x0 x1 : Int) (a : Option Addr) (len cap : Nat) (zs : List Int) (w : World) (w0 : (Lit.int .u8 x0).wf = true) (w1 : (Lit.int .u8 x1).wf = true) (h : IsRow .u8 w a len cap zs) :
    Calls Try.prog 5 #[.int .u8 x0, .int .u8 x1, .slice a len cap] w fun e w' => e = .returned (.bool true) ∧ Below w.heap.size w w' := by
  obtain ⟨k, rfl⟩ := u8_of w0
  obtain ⟨j, rfl⟩ := u8_of w1
  obtain ⟨bs, hb⟩ := came h
  exact pages_walk k j a len cap bs w hb
end Go.Proofs.Ytpkfcbbnfhjjlaa.Ix
