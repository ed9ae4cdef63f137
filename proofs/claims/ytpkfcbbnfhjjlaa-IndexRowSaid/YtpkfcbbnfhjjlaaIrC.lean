/- The walk of IndexTells: both sides said alike. -/
import Derived.Test.YtpkfcbbnfhjjlaaIrB
import Derived.Test.YtpkfcbbnfhjjlaaIxP
namespace Go.Proofs.Ytpkfcbbnfhjjlaa.Ix
open Go.RowKit Go.Proofs.Ytpkfcbbnfhjjlaa.Oct Go.Proofs.Ytpkfcbbnfhjjlaa.Sf
set_option linter.unusedVariables false

def encList (k : UInt8) (l : List UInt16) : List UInt8 := if Fit k l then idxPage k l else []
def encCode (k : UInt8) (l : List UInt16) : Int := if Fit k l then 0 else 50
def EncOut (w : World) (k : UInt8) (l : List UInt16) (e : Ending) (w' : World) : Prop := ∃ a len c, e = .returned (.tuple #[.slice a len c, .int .i64 (encCode k l)]) ∧ Oct.Told w' a (encList k l) ∧ (encList k l).length = len ∧ Below w.heap.size w w'
theorem encode_out (k : UInt8) {w : World} {A : Option Addr} {n c : Nat} {l : List UInt16} (h : Wd w A n c l) : Calls Try.prog 11 #[.int .u8 (k.toNat : Int), .slice A n c] w (EncOut w k l) := by
  by_cases hf : Fit k l
  · refine (encode_yes k h hf).mono fun e w' ⟨g, he, F⟩ => ⟨some ⟨g, 0, none⟩, 128, 128, ?_, ?_, ?_, F.below⟩
    · rw [he]; unfold encCode; rw [if_pos hf]
    · unfold encList; rw [if_pos hf]; exact F.has.told
    · unfold encList; rw [if_pos hf]; exact length_idxPage k l hf.2
  · refine (encode_no k A n c l w h.el (Nat.le_trans h.kc h.km) hf).mono fun e w' ⟨he, hw⟩ => ⟨none, 0, 0, ?_, ?_, ?_, ?_⟩
    · rw [he]; unfold encCode; rw [if_neg hf]
    · unfold encList; rw [if_neg hf]; exact .inl rfl
    · unfold encList; rw [if_neg hf]; rfl
    · subst hw; exact Below.refl _ _
theorem rencode_out (k : UInt8) {w : World} {A : Option Addr} {n c : Nat} {l : List UInt16} (h : Wd w A n c l) : Calls Try.prog 12 #[.int .u8 (k.toNat : Int), .slice A n c] w (EncOut w k l) := by
  by_cases hf : Fit k l
  · refine (rencode_yes k h hf).mono fun e w' ⟨a, c', he, hT, hB⟩ => ⟨a, 128, c', ?_, ?_, ?_, hB⟩
    · rw [he]; unfold encCode; rw [if_pos hf]
    · unfold encList; rw [if_pos hf]; exact hT
    · unfold encList; rw [if_pos hf]; exact length_idxPage k l hf.2
  · refine (rencode_no k A n c l w h.el (Nat.le_trans h.kc h.km) hf).mono fun e w' ⟨he, hw⟩ => ⟨none, 0, 0, ?_, ?_, ?_, ?_⟩
    · rw [he]; unfold encCode; rw [if_neg hf]
    · unfold encList; rw [if_neg hf]; exact .inl rfl
    · unfold encList; rw [if_neg hf]; rfl
    · subst hw; exact Below.refl _ _
open Classical in
noncomputable def decList (k : UInt8) (ps : List UInt8) : List UInt16 := if Holds k ps then wIn ps else []
open Classical in
noncomputable def decCode (k : UInt8) (ps : List UInt8) : Int := if Holds k ps then 0 else 50
def DecOut (w : World) (k : UInt8) (ps : List UInt8) (e : Ending) (w' : World) : Prop := ∃ A n c, e = .returned (.tuple #[.slice A n c, .int .i64 (decCode k ps)]) ∧ Wd w' A n c (decList k ps) ∧ Below w.heap.size w w'
theorem dec_no_out {w w' : World} {k : UInt8} {ps : List UInt8} {e : Ending} (h : ¬ Holds k ps) (hn : DecNo w e w') : DecOut w k ps e w' := by
  refine ⟨none, 0, 0, ?_, ?_, hn.2⟩
  · rw [hn.1]; unfold decCode; rw [if_neg h]
  · unfold decList; rw [if_neg h]; exact ⟨rfl, Nat.le_refl _, Nat.zero_le _, .inl rfl⟩
theorem decode_out (k : UInt8) (a : Option Addr) (len cap : Nat) (ps : List UInt8) (hlen : ps.length = len) (w : World) (hb : Oct.Told w a ps) (hc : len ≤ cap) (hm : cap ≤ maxLen) :
    Calls Try.prog 13 #[.int .u8 (k.toNat : Int), .slice a len cap] w (DecOut w k ps) := by
  refine (decode_any k a len cap ps hlen w hb hc hm).mono ?_
  rintro e w' (⟨h, v, he, ho, hB⟩ | ⟨h, hn⟩)
  · obtain ⟨A, c, hv, hW, _⟩ := OwnW.told ho
    refine ⟨A, (wIn ps).length, c, ?_, ?_, hB⟩
    · rw [he, hv]; unfold decCode; rw [if_pos h]
    · unfold decList; rw [if_pos h]; exact hW
  · exact dec_no_out h hn
theorem rdecode_out (k : UInt8) (a : Option Addr) (len cap : Nat) (ps : List UInt8) (hlen : ps.length = len) (w : World) (hb : Oct.Told w a ps) (hc : len ≤ cap) (hm : cap ≤ maxLen) :
    Calls Try.prog 14 #[.int .u8 (k.toNat : Int), .slice a len cap] w (DecOut w k ps) := by
  refine (rdecode_any k a len cap ps hlen w hb hc hm).mono ?_
  rintro e w' (⟨h, A, n, c, he, hW, hB⟩ | ⟨h, hn⟩)
  · refine ⟨A, n, c, ?_, ?_, hB⟩
    · rw [he]; unfold decCode; rw [if_pos h]
    · unfold decList; rw [if_pos h]; exact hW
  · exact dec_no_out h hn
theorem place_both (n : Int) (h1 : -9223372036854775808 ≤ n) (h2 : n ≤ 100000) : ∃ x y : Int,
    (∀ w, Calls Try.prog 17 #[.int .i64 n] w fun e w' => e = .returned (.tuple #[.int .i64 x, .int .i64 y]) ∧ w = w') ∧
    (∀ w, Calls Try.prog 18 #[.int .i64 n] w fun e w' => e = .returned (.tuple #[.int .i64 x, .int .i64 y]) ∧ w = w') := by
  by_cases h : n < 0
  · exact ⟨-1, -1, fun w => place_neg n h1 h w, fun w => rplace_neg n h1 h w⟩
  · obtain ⟨m, rfl⟩ := Int.eq_ofNat_of_zero_le (show 0 ≤ n by omega)
    exact ⟨((m / 61 : Nat) : Int), ((m % 61 : Nat) : Int), fun w => place_pos m (by omega) w, fun w => rplace_pos m (by omega) w⟩

theorem run_append_words (w : World) (ty : TypeId) (base : Nat) (v : Value) (xs ys : List UInt16) (hown : OwnW w base v xs) (a : Option Addr) (len cap : Nat) (hlen : ys.length = len) (hT : ToldV w a (wvals ys)) (hnil : a = none → cap = 0)
    (hsz : xs.length + len ≤ 100000000) (hbase : base ≤ w.heap.size) :
    ∃ v' w', (Builtin.append_ #[22, 22] ty #[v, .slice a len cap]).run Try.prog w = .ok v' w' ∧ OwnW w' base v' (xs ++ ys) ∧ Below base w w' := by
  obtain ⟨i0, hi, hz0, hz1, hz2⟩ := info_parts word_info
  cases a with
  | none =>
    have h0 : ys = [] := by
      rcases hT with h | ⟨b, o, h, _⟩
      · exact List.eq_nil_of_length_eq_zero (by have := congrArg List.length h; simpa [wvals] using this)
      · cases h
    subst h0
    obtain rfl : len = 0 := by simpa using hlen.symm
    rw [hnil rfl]
    exact ⟨v, w, run_append_owned_none (P := Try.prog) (w := w) base 22 ty 43 i0 1 Try.underlying22 hi v _ _ hown, by simpa using hown, Below.refl _ _⟩
  | some x =>
    have hnews : ∀ j u, (wvals ys)[j]? = some u → w.cell? (x.add j) = some u := fun j u hj => by
      rcases hT with h | ⟨b, o, h, k⟩
      · rw [h] at hj; simp at hj
      · cases h
        rw [Oct.add_plain]
        exact k.cellAt hj
    obtain ⟨v', w', hr, ho, hg, _⟩ := run_append_own (P := Try.prog) w base 22 ty 43 i0 (.int .u16 0) 1 2 Try.underlying22 hi hz0 hz1 hz2 rfl (by omega) v xs.length (wvals xs) hown x len cap (wvals ys)
      (by rw [length_wvals, hlen, Nat.mul_one]) hnews (fun u hu => by simp [wvals] at hu; obtain ⟨c, _, rfl⟩ := hu; rfl) (by unfold maxLen; omega) (by omega) hbase
    refine ⟨v', w', hr, ?_, ⟨hg.os, hg.tape, hg.output, hg.size, fun k hk => hg.block k (by omega) (fun e => ?_)⟩⟩
    · unfold OwnW
      rw [List.length_append, hlen, wvals_append]
      exact ho
    · have := (World.ownsRow.lt hown k e.symm).1
      omega
theorem own_no_words (w : World) : OwnW (w.alloc (.cells #[] 43)) w.heap.size (.slice (some ⟨w.heap.size, 0, none⟩) 0 0) [] := World.ownsRow_lit w #[] 0 (Nat.le_refl _) (by decide) (by simp)
theorem told_keep {w w' : World} {a : Option Addr} {bs : List UInt8} (h : Oct.Told w a bs) (k : Below w.heap.size w w') : Oct.Told w' a bs := by
  rcases h with h | ⟨b, o, rfl, h⟩
  · exact .inl h
  · by_cases h0 : 0 < bs.length
    · exact .inr ⟨b, o, rfl, h.below (has_lt h h0) k⟩
    · exact .inl (List.eq_nil_of_length_eq_zero (by omega))

set_option maxRecDepth 100000 in
set_option maxHeartbeats 2000000 in
theorem tells_walk (k : UInt8) (A : Option Addr) (n c : Nat) (l : List UInt16) (a : Option Addr) (len cap : Nat) (ps : List UInt8) (N : Int) (w : World) (h : Wd w A n c l) (hnil : A = none → c = 0) (hp : Came w a len cap ps) (hN : -9223372036854775808 ≤ N) (hN2 : N ≤ 9223372036854775807) :
    Calls Try.prog 3 #[.int .u8 (k.toNat : Int), .slice A n c, .slice a len cap, .int .i64 N] w fun e w' => e = .returned (.bool true) ∧ Below w.heap.size w w' := by
  have HD := Lib.hid h
  have HP := Lib.hid hp
  have hcm := h.km
  have hnc := h.kc
  have hpm := hp.hcap
  have hpc := hp.le
  have hpm2 := Lib.hid hp.hcap
  have hpc2 := Lib.hid hp.le
  unfold maxLen at hcm hpm
  have HL := Lib.hid h.el
  have HLP := Lib.hid hp.hlen
  clear h hp
  by_cases hn : n ≤ 100
  · by_cases hl : len ≤ 200
    · by_cases hN3 : N ≤ 100000
      · obtain ⟨v1, w1, hr1, O1, B1⟩ := run_append_words (w.alloc (.cells #[] 43)) 22 w.heap.size _ [] l (own_no_words w) A n c HL.out ((HD.out.below ((Below.refl _ w).alloc (Nat.le_refl _) _)).ws) hnil (by simp; omega) (by simp)
        rw [List.nil_append] at O1
        obtain ⟨A1, c1, rfl, W1, _⟩ := OwnW.told O1
        have HB1 := Lib.hid (((Below.refl _ w).alloc (Nat.le_refl _) (.cells #[] 43)).trans B1)
        have HW1 := Lib.hid W1
        clear B1 W1 O1
        go_enter Try.func3, Try.ntmps3
        go_wp2_with (at_builtin; refine wpList_append_run rfl (.tmp 36) (.tmp 37) _ rfl _ _ rfl rfl _ w1 hr1 ?_)
        have HP1 := Lib.hid (told_keep HP.out.told HB1.out)
        refine (again_len a len cap ps HLP.out w1 (Nat.le_trans hpc2.out hpm2.out) HP1.out).mono ?_
        rintro e w2 ⟨g, c2, rfl, F2⟩
        have HT2 := Lib.hid F2.has.told
        have HC2 := Lib.hid (And.intro F2.len F2.cap)
        have HW2 := Lib.hid (HW1.out.below F2.below)
        have HB2 := Lib.hid (HB1.out.trans (F2.below.mono HB1.out.size))
        clear F2 HW1 HB1 HP1
        go_wp2_with fail
        have HEN := Lib.hid (encode_out k HW2.out)
        with_reducible refine HEN.out.mono ?_
        rintro e w3 ⟨a3, len3, c3, rfl, T3, L3, B3⟩
        have HT3 := Lib.hid T3
        have HL3 := Lib.hid L3
        have HW3 := Lib.hid (HW2.out.below B3)
        have HO3 := Lib.hid (told_keep HT2.out B3)
        have HB3 := Lib.hid (HB2.out.trans (B3.mono HB2.out.size))
        clear T3 L3 B3 HEN HW2 HB2 HT2
        go_wp2_with fail
        refine (rencode_out k (HD.out.below HB3.out)).mono ?_
        rintro e w4 ⟨a4, len4, c4, rfl, T4, L4, B4⟩
        have HT4 := Lib.hid (And.intro (told_keep HT3.out B4) T4)
        have HL4 := Lib.hid L4
        have HW4 := Lib.hid (HW3.out.below B4)
        have HO4 := Lib.hid (told_keep HO3.out B4)
        have HB4 := Lib.hid (HB3.out.trans (B4.mono HB3.out.size))
        clear T4 L4 B4 HW3 HB3 HT3 HO3
        go_wp2_with fail
        refine (decode_out k _ len c2 ps HLP.out w4 HO4.out (by have := HC2.out.1; rwa [HLP.out] at this) HC2.out.2).mono ?_
        rintro e w5 ⟨A5, n5, c5, rfl, W5, B5⟩
        have HT5 := Lib.hid (And.intro (told_keep HT4.out.1 B5) (told_keep HT4.out.2 B5))
        have HV5 := Lib.hid W5
        have HW5 := Lib.hid (HW4.out.below B5)
        have HO5 := Lib.hid (told_keep HO4.out B5)
        have HB5 := Lib.hid (HB4.out.trans (B5.mono HB4.out.size))
        clear W5 B5 HW4 HB4 HT4 HO4
        go_wp2_with fail
        refine (rdecode_out k a len cap ps HLP.out w5 (told_keep HP.out.told HB5.out) hpc2.out hpm2.out).mono ?_
        rintro e w6 ⟨A6, n6, c6, rfl, W6, B6⟩
        have HT6 := Lib.hid (And.intro (told_keep HT5.out.1 B6) (told_keep HT5.out.2 B6))
        have HV6 := Lib.hid (And.intro (HV5.out.below B6) W6)
        have HW6 := Lib.hid (HW5.out.below B6)
        have HO6 := Lib.hid (told_keep HO5.out B6)
        have HB6 := Lib.hid (HB5.out.trans (B6.mono HB5.out.size))
        clear W6 B6 HV5 HW5 HB5 HT5 HO5
        generalize encCode k l = ec
        generalize decCode k ps = dc
        go_wp2_with fail
        refine (equal_yes a3 a4 len3 len4 c3 c4 _ _ rfl HL3.out HL4.out w6 HT6.out.1 HT6.out.2).mono ?_
        rintro e w' ⟨rfl, rfl⟩
        go_wp2_with fail
        refine (eqwords_any HV6.out.1 HV6.out.2).mono ?_
        rintro e w7 ⟨rfl, S7⟩
        rw [show (decList k ps == decList k ps) = true from by simp]
        have HW7 := Lib.hid (HW6.out.still S7)
        have HO7 := Lib.hid (told_keep HO6.out (S7.below _))
        have HB7 := Lib.hid (HB6.out.trans (S7.below _))
        clear S7 HV6 HW6 HO6 HB6 HT6
        go_wp2_with fail
        have HE7 := Lib.hid (eqwords_any HW7.out (HD.out.below HB7.out))
        with_reducible refine HE7.out.mono ?_
        rintro e w8 ⟨rfl, S8⟩
        rw [show (l == l) = true from by simp]
        have HO8 := Lib.hid (told_keep HO7.out (S8.below _))
        have HB8 := Lib.hid (HB7.out.trans (S8.below _))
        clear S8 HW7 HO7 HB7 HE7
        go_wp2_with fail
        refine (equal_yes _ a len len c2 cap ps ps rfl HLP.out HLP.out w8 HO8.out (told_keep HP.out.told HB8.out)).mono ?_
        rintro e w' ⟨rfl, rfl⟩
        obtain ⟨x, y, HX, HY⟩ := place_both N hN hN3
        have HX2 := Lib.hid HX
        have HY2 := Lib.hid HY
        clear HX HY
        go_wp2_with fail
        refine (HX2.out w8).mono ?_
        rintro e w' ⟨rfl, rfl⟩
        go_wp2_with fail
        refine (HY2.out w8).mono ?_
        rintro e w' ⟨rfl, rfl⟩
        go_wp2_with fail
        refine (pages_any N hN hN2 w8).mono ?_
        rintro e w' ⟨rfl, rfl⟩
        go_wp2_with fail
        refine (rpages_any N hN hN3 w8).mono ?_
        rintro e w' ⟨rfl, rfl⟩
        go_wp2_with fail
        refine (awake_any _).mono ?_
        rintro e u2 ⟨rfl, B11⟩
        have HB11 := Lib.hid (HB8.out.trans (B11.mono HB8.out.size))
        clear B11
        go_wp2_with fail
        go_ret
        exact ⟨rfl, HB11.out⟩
      · go_enter Try.func3, Try.ntmps3
        go_wp2_with fail
        refine (awake_any _).mono ?_
        rintro e u2 ⟨rfl, B11⟩
        go_wp2_with fail
        go_ret
        exact ⟨rfl, B11⟩
    · go_enter Try.func3, Try.ntmps3
      go_wp2_with fail
      refine (awake_any _).mono ?_
      rintro e u2 ⟨rfl, B11⟩
      go_wp2_with fail
      go_ret
      exact ⟨rfl, B11⟩
  · go_enter Try.func3, Try.ntmps3
    go_wp2_with fail
    refine (awake_any _).mono ?_
    rintro e u2 ⟨rfl, B11⟩
    go_wp2_with fail
    go_ret
    exact ⟨rfl, B11⟩

theorem tells_walk' (x0 : Int) (A : Option Addr) (n c : Nat) (l : List UInt16) (a : Option Addr) (len cap : Nat) (zs : List Int) (N : Int) (w : World) (w0 : (Lit.int .u8 x0).wf = true) (h : Wd w A n c l) (hnil : A = none → c = 0) (hp : IsRow .u8 w a len cap zs) (w3 : (Lit.int .i64 N).wf = true) :
    Calls Try.prog 3 #[.int .u8 x0, .slice A n c, .slice a len cap, .int .i64 N] w fun e w' => e = .returned (.bool true) ∧ Below w.heap.size w w' := by
  obtain ⟨k, rfl⟩ := u8_of w0
  obtain ⟨bs, hb⟩ := came hp
  have h2 : IntKind.i64.min ≤ N ∧ N ≤ IntKind.i64.max := by simpa [Lit.wf] using w3
  have h3 : (-9223372036854775808 : Int) ≤ N ∧ N ≤ 9223372036854775807 := h2
  exact tells_walk k A n c l a len cap bs N w h hnil hb h3.1 h3.2
end Go.Proofs.Ytpkfcbbnfhjjlaa.Ix
