/- The walk of IndexBack. -/
import Derived.Test.YtpkfcbbnfhjjlaaIxO
namespace Go.Proofs.Ytpkfcbbnfhjjlaa.Ix
open Go.RowKit Go.Proofs.Ytpkfcbbnfhjjlaa.Oct Go.Proofs.Ytpkfcbbnfhjjlaa.Sf
set_option linter.unusedVariables false

theorem other_any (k : UInt8) (h : k = 4 ∨ k = 5) (w : World) :
    Calls Try.prog 21 #[.int .u8 (k.toNat : Int)] w fun e w' => e = .returned (.int .u8 (((9 - k : UInt8).toNat : Nat) : Int)) ∧ w = w' := by
  rcases h with rfl | rfl
  all_goals
    go_enter Try.func21, Try.ntmps21
    go_wp2
    go_ret
    exact ⟨rfl, rfl⟩
theorem same_pages (k : UInt8) (l m : List UInt16) (h1 : l.length ≤ 61) (h2 : m.length ≤ 61) : (idxPage k l == idxPage k m) = (l == m) := by
  by_cases h : l = m
  · subst h; simp
  · rw [beq_eq_false_iff_ne.2 h, beq_eq_false_iff_ne.2 (fun e => h (page_inj h1 h2 e))]

set_option maxRecDepth 100000 in
set_option maxHeartbeats 1000000 in
theorem back_walk4 (A : Option Addr) (n c : Nat) (l : List UInt16) (B : Option Addr) (m d : Nat) (l2 : List UInt16) (w : World) (h : Wd w A n c l) (h2 : Wd w B m d l2) :
    Calls Try.prog 4 #[.slice A n c, .slice B m d, .bool false] w fun e w' => e = .returned (.bool true) ∧ Below w.heap.size w w' := by
  have HD := Lib.hid h
  have HE := Lib.hid h2
  have hcm := h.km
  have hnc := h.kc
  have hdm := h2.km
  have hmd := h2.kc
  unfold maxLen at hcm hdm
  have HL := Lib.hid h.el
  have HM := Lib.hid h2.el
  clear h h2
  by_cases hn : n ≤ 80
  · by_cases hm : m ≤ 80
    · by_cases hn1 : n ≤ 61
      · have in1 : (n : Int) ≤ 61 := by omega
        have dn1 : decide ((n : Int) ≤ 61) = true := by simp; omega
        have HF := Lib.hid (show Fit 4 l from ⟨by decide, by rw [HL.out]; exact hn1⟩)
        have EY := Lib.hid (encode_yes 4 HD.out HF.out)
        by_cases hm1 : m ≤ 61
        · have HG := Lib.hid (show Fit 4 l2 from ⟨by decide, by rw [HM.out]; exact hm1⟩)
          have im1 : (m : Int) ≤ 61 := by omega
          have dm1 : decide ((m : Int) ≤ 61) = true := by simp; omega
          go_enter Try.func4, Try.ntmps4
          go_wp2_with fail
          refine EY.out.mono ?_
          rintro e w1 ⟨g, rfl, F1⟩
          have HF1 := Lib.hid F1
          have HP1 := Lib.hid (show Has w1 g 0 (idxPage 4 l) from F1.has)
          clear F1
          go_wp2_with fail
          refine (encode_yes 4 (HE.out.below HF1.out.below) HG.out).mono ?_
          rintro e w2 ⟨g2, rfl, F2⟩
          have HP2 := Lib.hid (HP1.out.below HF1.out.hi F2.below)
          have HQ2 := Lib.hid (show Has w2 g2 0 (idxPage 4 l2) from F2.has)
          have HB2 := Lib.hid (HF1.out.below.trans (F2.below.mono HF1.out.below.size))
          have HG2 := Lib.hid (And.intro F2.hi (Nat.lt_of_lt_of_le HF1.out.hi F2.below.size))
          clear F2 HP1 HF1
          go_wp2_with fail
          refine (decode_page 4 g 0 128 l _ HF.out HP2.out (by decide) (by decide)).mono ?_
          rintro e w3 ⟨v, rfl, O3, B3⟩
          obtain ⟨A1, c1, hv, hW3, _⟩ := OwnW.told O3
          subst hv
          have HP3 := Lib.hid (HP2.out.below HG2.out.2 B3)
          have HQ3 := Lib.hid (HQ2.out.below HG2.out.1 B3)
          have HW3 := Lib.hid hW3
          have HB3 := Lib.hid (HB2.out.trans (B3.mono HB2.out.size))
          have HG3 := Lib.hid (And.intro (Nat.lt_of_lt_of_le HG2.out.1 B3.size) (Nat.lt_of_lt_of_le HG2.out.2 B3.size))
          clear O3 B3 HP2 HQ2 HB2 HG2 hW3
          go_wp2_with fail
          refine (other_any 4 (by decide) _).mono ?_
          rintro e w' ⟨rfl, rfl⟩
          go_wp2_with fail
          refine (decode_other 5 4 g 0 128 l _ HF.out.2 (by decide) HP3.out (by decide) (by decide)).mono ?_
          rintro e w4 ⟨rfl, B4⟩
          have HP4 := Lib.hid (HP3.out.below HG3.out.2 B4)
          have HQ4 := Lib.hid (HQ3.out.below HG3.out.1 B4)
          have HW4 := Lib.hid (HW3.out.below B4)
          have HB4 := Lib.hid (HB3.out.trans (B4.mono HB3.out.size))
          clear B4 HP3 HQ3 HW3 HB3 HG3
          have HE4 := Lib.hid (eqwords_any HW4.out (HD.out.below HB4.out))
          go_wp2_with fail
          refine HE4.out.mono ?_
          rintro e w5 ⟨rfl, S5⟩
          rw [show (l == l) = true from by simp]
          have HP5 := Lib.hid (HP4.out.still S5)
          have HQ5 := Lib.hid (HQ4.out.still S5)
          have HB5 := Lib.hid (HB4.out.trans (S5.below _))
          clear S5 HE4 HP4 HQ4 HB4 HW4
          go_wp2_with fail
          refine (equal_len _ _ 128 128 128 128 _ _ (length_idxPage 4 l HF.out.2) (length_idxPage 4 l2 HG.out.2) _ HP5.out.told HQ5.out.told).mono ?_
          rintro e w' ⟨rfl, rfl⟩
          rw [same_pages 4 l l2 HF.out.2 HG.out.2]
          go_wp2_with fail
          refine (eqwords_any (HD.out.below HB5.out) (HE.out.below HB5.out)).mono ?_
          rintro e w6 ⟨rfl, S6⟩
          have HB6 := Lib.hid (HB5.out.trans (S6.below _))
          clear S6
          generalize (l == l2) = q
          cases q
          all_goals
            go_wp2_with fail
            refine (awake_any _).mono ?_
            rintro e u2 ⟨rfl, B11⟩
            have HB11 := Lib.hid (HB6.out.trans (B11.mono HB6.out.size))
            clear B11
            go_wp2_with fail
            go_ret
            exact ⟨rfl, HB11.out⟩
        · have HG := Lib.hid (encode_no 4 B m d l2)
          go_enter Try.func4, Try.ntmps4
          go_wp2_with fail
          refine EY.out.mono ?_
          rintro e w1 ⟨g, rfl, F1⟩
          have HF1 := Lib.hid F1
          have HP1 := Lib.hid (show Has w1 g 0 (idxPage 4 l) from F1.has)
          clear F1
          go_wp2_with fail
          refine (HG.out w1 HM.out (by unfold maxLen; omega) (fun hh => hm1 (by have := hh.2; rw [HM.out] at this; exact this))).mono ?_
          rintro e w' ⟨rfl, rfl⟩
          have HB2 := Lib.hid HF1.out.below
          have HG2 := HF1.out.hi
          go_wp2_with fail
          refine (decode_page 4 g 0 128 l _ HF.out HP1.out (by decide) (by decide)).mono ?_
          rintro e w3 ⟨v, rfl, O3, B3⟩
          obtain ⟨A1, c1, hv, hW3, _⟩ := OwnW.told O3
          subst hv
          have HP3 := Lib.hid (HP1.out.below HG2 B3)
          have HW3 := Lib.hid hW3
          have HB3 := Lib.hid (HB2.out.trans (B3.mono HB2.out.size))
          clear O3 B3 HP1 HB2 hW3
          go_wp2_with fail
          refine (other_any 4 (by decide) _).mono ?_
          rintro e w' ⟨rfl, rfl⟩
          go_wp2_with fail
          refine (decode_other 5 4 g 0 128 l _ HF.out.2 (by decide) HP3.out (by decide) (by decide)).mono ?_
          rintro e w4 ⟨rfl, B4⟩
          have HW4 := Lib.hid (HW3.out.below B4)
          have HB4 := Lib.hid (HB3.out.trans (B4.mono HB3.out.size))
          clear B4 HP3 HW3 HB3
          have HE4 := Lib.hid (eqwords_any HW4.out (HD.out.below HB4.out))
          go_wp2_with fail
          refine HE4.out.mono ?_
          rintro e w5 ⟨rfl, S5⟩
          rw [show (l == l) = true from by simp]
          have HB5 := Lib.hid (HB4.out.trans (S5.below _))
          clear S5 HE4 HB4 HW4
          go_wp2_with fail
          refine (awake_any _).mono ?_
          rintro e u2 ⟨rfl, B11⟩
          have HB11 := Lib.hid (HB5.out.trans (B11.mono HB5.out.size))
          clear B11
          go_wp2_with fail
          go_ret
          exact ⟨rfl, HB11.out⟩
      · have EN := Lib.hid (encode_no 4 A n c l w HL.out (by unfold maxLen; omega) (fun hh => hn1 (by have := hh.2; rw [HL.out] at this; exact this)))
        by_cases hm1 : m ≤ 61
        · have HG := Lib.hid (show Fit 4 l2 from ⟨by decide, by rw [HM.out]; exact hm1⟩)
          have im1 : (m : Int) ≤ 61 := by omega
          have dm1 : decide ((m : Int) ≤ 61) = true := by simp; omega
          go_enter Try.func4, Try.ntmps4
          go_wp2_with fail
          refine EN.out.mono ?_
          rintro e w' ⟨rfl, rfl⟩
          go_wp2_with fail
          refine (encode_yes 4 HE.out HG.out).mono ?_
          rintro e w2 ⟨g2, rfl, F2⟩
          have HB2 := Lib.hid F2.below
          clear F2
          go_wp2_with fail
          refine (awake_any _).mono ?_
          rintro e u2 ⟨rfl, B11⟩
          have HB11 := Lib.hid (HB2.out.trans (B11.mono HB2.out.size))
          clear B11
          go_wp2_with fail
          go_ret
          exact ⟨rfl, HB11.out⟩
        · have EN2 := Lib.hid (encode_no 4 B m d l2 w HM.out (by unfold maxLen; omega) (fun hh => hm1 (by have := hh.2; rw [HM.out] at this; exact this)))
          go_enter Try.func4, Try.ntmps4
          go_wp2_with fail
          refine EN.out.mono ?_
          rintro e w' ⟨rfl, rfl⟩
          go_wp2_with fail
          refine EN2.out.mono ?_
          rintro e w' ⟨rfl, rfl⟩
          go_wp2_with fail
          refine (awake_any _).mono ?_
          rintro e u2 ⟨rfl, B11⟩
          go_wp2_with fail
          go_ret
          exact ⟨rfl, B11⟩
    · go_enter Try.func4, Try.ntmps4
      go_wp2_with fail
      refine (awake_any _).mono ?_
      rintro e u2 ⟨rfl, B11⟩
      go_wp2_with fail
      go_ret
      exact ⟨rfl, B11⟩
  · go_enter Try.func4, Try.ntmps4
    go_wp2_with fail
    refine (awake_any _).mono ?_
    rintro e u2 ⟨rfl, B11⟩
    go_wp2_with fail
    go_ret
    exact ⟨rfl, B11⟩

set_option maxRecDepth 100000 in
set_option maxHeartbeats 1000000 in
theorem back_walk5 (A : Option Addr) (n c : Nat) (l : List UInt16) (B : Option Addr) (m d : Nat) (l2 : List UInt16) (w : World) (h : Wd w A n c l) (h2 : Wd w B m d l2) :
    Calls Try.prog 4 #[.slice A n c, .slice B m d, .bool true] w fun e w' => e = .returned (.bool true) ∧ Below w.heap.size w w' := by
  have HD := Lib.hid h
  have HE := Lib.hid h2
  have hcm := h.km
  have hnc := h.kc
  have hdm := h2.km
  have hmd := h2.kc
  unfold maxLen at hcm hdm
  have HL := Lib.hid h.el
  have HM := Lib.hid h2.el
  clear h h2
  by_cases hn : n ≤ 80
  · by_cases hm : m ≤ 80
    · by_cases hn1 : n ≤ 61
      · have in1 : (n : Int) ≤ 61 := by omega
        have dn1 : decide ((n : Int) ≤ 61) = true := by simp; omega
        have HF := Lib.hid (show Fit 5 l from ⟨by decide, by rw [HL.out]; exact hn1⟩)
        have EY := Lib.hid (encode_yes 5 HD.out HF.out)
        by_cases hm1 : m ≤ 61
        · have HG := Lib.hid (show Fit 5 l2 from ⟨by decide, by rw [HM.out]; exact hm1⟩)
          have im1 : (m : Int) ≤ 61 := by omega
          have dm1 : decide ((m : Int) ≤ 61) = true := by simp; omega
          go_enter Try.func4, Try.ntmps4
          go_wp2_with fail
          refine EY.out.mono ?_
          rintro e w1 ⟨g, rfl, F1⟩
          have HF1 := Lib.hid F1
          have HP1 := Lib.hid (show Has w1 g 0 (idxPage 5 l) from F1.has)
          clear F1
          go_wp2_with fail
          refine (encode_yes 5 (HE.out.below HF1.out.below) HG.out).mono ?_
          rintro e w2 ⟨g2, rfl, F2⟩
          have HP2 := Lib.hid (HP1.out.below HF1.out.hi F2.below)
          have HQ2 := Lib.hid (show Has w2 g2 0 (idxPage 5 l2) from F2.has)
          have HB2 := Lib.hid (HF1.out.below.trans (F2.below.mono HF1.out.below.size))
          have HG2 := Lib.hid (And.intro F2.hi (Nat.lt_of_lt_of_le HF1.out.hi F2.below.size))
          clear F2 HP1 HF1
          go_wp2_with fail
          refine (decode_page 5 g 0 128 l _ HF.out HP2.out (by decide) (by decide)).mono ?_
          rintro e w3 ⟨v, rfl, O3, B3⟩
          obtain ⟨A1, c1, hv, hW3, _⟩ := OwnW.told O3
          subst hv
          have HP3 := Lib.hid (HP2.out.below HG2.out.2 B3)
          have HQ3 := Lib.hid (HQ2.out.below HG2.out.1 B3)
          have HW3 := Lib.hid hW3
          have HB3 := Lib.hid (HB2.out.trans (B3.mono HB2.out.size))
          have HG3 := Lib.hid (And.intro (Nat.lt_of_lt_of_le HG2.out.1 B3.size) (Nat.lt_of_lt_of_le HG2.out.2 B3.size))
          clear O3 B3 HP2 HQ2 HB2 HG2 hW3
          go_wp2_with fail
          refine (other_any 5 (by decide) _).mono ?_
          rintro e w' ⟨rfl, rfl⟩
          go_wp2_with fail
          refine (decode_other 4 5 g 0 128 l _ HF.out.2 (by decide) HP3.out (by decide) (by decide)).mono ?_
          rintro e w4 ⟨rfl, B4⟩
          have HP4 := Lib.hid (HP3.out.below HG3.out.2 B4)
          have HQ4 := Lib.hid (HQ3.out.below HG3.out.1 B4)
          have HW4 := Lib.hid (HW3.out.below B4)
          have HB4 := Lib.hid (HB3.out.trans (B4.mono HB3.out.size))
          clear B4 HP3 HQ3 HW3 HB3 HG3
          have HE4 := Lib.hid (eqwords_any HW4.out (HD.out.below HB4.out))
          go_wp2_with fail
          refine HE4.out.mono ?_
          rintro e w5 ⟨rfl, S5⟩
          rw [show (l == l) = true from by simp]
          have HP5 := Lib.hid (HP4.out.still S5)
          have HQ5 := Lib.hid (HQ4.out.still S5)
          have HB5 := Lib.hid (HB4.out.trans (S5.below _))
          clear S5 HE4 HP4 HQ4 HB4 HW4
          go_wp2_with fail
          refine (equal_len _ _ 128 128 128 128 _ _ (length_idxPage 5 l HF.out.2) (length_idxPage 5 l2 HG.out.2) _ HP5.out.told HQ5.out.told).mono ?_
          rintro e w' ⟨rfl, rfl⟩
          rw [same_pages 5 l l2 HF.out.2 HG.out.2]
          go_wp2_with fail
          refine (eqwords_any (HD.out.below HB5.out) (HE.out.below HB5.out)).mono ?_
          rintro e w6 ⟨rfl, S6⟩
          have HB6 := Lib.hid (HB5.out.trans (S6.below _))
          clear S6
          generalize (l == l2) = q
          cases q
          all_goals
            go_wp2_with fail
            refine (awake_any _).mono ?_
            rintro e u2 ⟨rfl, B11⟩
            have HB11 := Lib.hid (HB6.out.trans (B11.mono HB6.out.size))
            clear B11
            go_wp2_with fail
            go_ret
            exact ⟨rfl, HB11.out⟩
        · have HG := Lib.hid (encode_no 5 B m d l2)
          go_enter Try.func4, Try.ntmps4
          go_wp2_with fail
          refine EY.out.mono ?_
          rintro e w1 ⟨g, rfl, F1⟩
          have HF1 := Lib.hid F1
          have HP1 := Lib.hid (show Has w1 g 0 (idxPage 5 l) from F1.has)
          clear F1
          go_wp2_with fail
          refine (HG.out w1 HM.out (by unfold maxLen; omega) (fun hh => hm1 (by have := hh.2; rw [HM.out] at this; exact this))).mono ?_
          rintro e w' ⟨rfl, rfl⟩
          have HB2 := Lib.hid HF1.out.below
          have HG2 := HF1.out.hi
          go_wp2_with fail
          refine (decode_page 5 g 0 128 l _ HF.out HP1.out (by decide) (by decide)).mono ?_
          rintro e w3 ⟨v, rfl, O3, B3⟩
          obtain ⟨A1, c1, hv, hW3, _⟩ := OwnW.told O3
          subst hv
          have HP3 := Lib.hid (HP1.out.below HG2 B3)
          have HW3 := Lib.hid hW3
          have HB3 := Lib.hid (HB2.out.trans (B3.mono HB2.out.size))
          clear O3 B3 HP1 HB2 hW3
          go_wp2_with fail
          refine (other_any 5 (by decide) _).mono ?_
          rintro e w' ⟨rfl, rfl⟩
          go_wp2_with fail
          refine (decode_other 4 5 g 0 128 l _ HF.out.2 (by decide) HP3.out (by decide) (by decide)).mono ?_
          rintro e w4 ⟨rfl, B4⟩
          have HW4 := Lib.hid (HW3.out.below B4)
          have HB4 := Lib.hid (HB3.out.trans (B4.mono HB3.out.size))
          clear B4 HP3 HW3 HB3
          have HE4 := Lib.hid (eqwords_any HW4.out (HD.out.below HB4.out))
          go_wp2_with fail
          refine HE4.out.mono ?_
          rintro e w5 ⟨rfl, S5⟩
          rw [show (l == l) = true from by simp]
          have HB5 := Lib.hid (HB4.out.trans (S5.below _))
          clear S5 HE4 HB4 HW4
          go_wp2_with fail
          refine (awake_any _).mono ?_
          rintro e u2 ⟨rfl, B11⟩
          have HB11 := Lib.hid (HB5.out.trans (B11.mono HB5.out.size))
          clear B11
          go_wp2_with fail
          go_ret
          exact ⟨rfl, HB11.out⟩
      · have EN := Lib.hid (encode_no 5 A n c l w HL.out (by unfold maxLen; omega) (fun hh => hn1 (by have := hh.2; rw [HL.out] at this; exact this)))
        by_cases hm1 : m ≤ 61
        · have HG := Lib.hid (show Fit 5 l2 from ⟨by decide, by rw [HM.out]; exact hm1⟩)
          have im1 : (m : Int) ≤ 61 := by omega
          have dm1 : decide ((m : Int) ≤ 61) = true := by simp; omega
          go_enter Try.func4, Try.ntmps4
          go_wp2_with fail
          refine EN.out.mono ?_
          rintro e w' ⟨rfl, rfl⟩
          go_wp2_with fail
          refine (encode_yes 5 HE.out HG.out).mono ?_
          rintro e w2 ⟨g2, rfl, F2⟩
          have HB2 := Lib.hid F2.below
          clear F2
          go_wp2_with fail
          refine (awake_any _).mono ?_
          rintro e u2 ⟨rfl, B11⟩
          have HB11 := Lib.hid (HB2.out.trans (B11.mono HB2.out.size))
          clear B11
          go_wp2_with fail
          go_ret
          exact ⟨rfl, HB11.out⟩
        · have EN2 := Lib.hid (encode_no 5 B m d l2 w HM.out (by unfold maxLen; omega) (fun hh => hm1 (by have := hh.2; rw [HM.out] at this; exact this)))
          go_enter Try.func4, Try.ntmps4
          go_wp2_with fail
          refine EN.out.mono ?_
          rintro e w' ⟨rfl, rfl⟩
          go_wp2_with fail
          refine EN2.out.mono ?_
          rintro e w' ⟨rfl, rfl⟩
          go_wp2_with fail
          refine (awake_any _).mono ?_
          rintro e u2 ⟨rfl, B11⟩
          go_wp2_with fail
          go_ret
          exact ⟨rfl, B11⟩
    · go_enter Try.func4, Try.ntmps4
      go_wp2_with fail
      refine (awake_any _).mono ?_
      rintro e u2 ⟨rfl, B11⟩
      go_wp2_with fail
      go_ret
      exact ⟨rfl, B11⟩
  · go_enter Try.func4, Try.ntmps4
    go_wp2_with fail
    refine (awake_any _).mono ?_
    rintro e u2 ⟨rfl, B11⟩
    go_wp2_with fail
    go_ret
    exact ⟨rfl, B11⟩

theorem back_walk (A : Option Addr) (n c : Nat) (l : List UInt16) (B : Option Addr) (m d : Nat) (l2 : List UInt16) (b : Bool) (w : World) (h : Wd w A n c l) (_ : A = none → c = 0) (h2 : Wd w B m d l2) (_ : B = none → d = 0) :
    Calls Try.prog 4 #[.slice A n c, .slice B m d, .bool b] w fun e w' => e = .returned (.bool true) ∧ Below w.heap.size w w' := by
  cases b
  · exact back_walk4 A n c l B m d l2 w h h2
  · exact back_walk5 A n c l B m d l2 w h h2
end Go.Proofs.Ytpkfcbbnfhjjlaa.Ix
