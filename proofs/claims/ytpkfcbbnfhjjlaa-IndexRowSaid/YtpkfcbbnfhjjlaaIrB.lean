/- The reference of index: Decode. -/
import Derived.Test.YtpkfcbbnfhjjlaaIrA
import Derived.IntWalk
namespace Go.Proofs.Ytpkfcbbnfhjjlaa.Ix
open Go.RowKit Go.Proofs.Ytpkfcbbnfhjjlaa.Oct Go.Proofs.Ytpkfcbbnfhjjlaa.Sf
set_option linter.unusedVariables false

def RYes (w : World) (l : List UInt16) (e : Ending) (w' : World) : Prop := ∃ A n c, e = .returned (.tuple #[.slice A n c, .int .i64 0]) ∧ Wd w' A n c l ∧ Below w.heap.size w w'

theorem step_word {ops : Array Oper} {o : Oper} {a : Act} {w : World} {K : Act → World → Prop} {Q : Exit → Act → World → Prop} {E : Prop} (hgd : o.guard = none) (s x : Operand)
    (ho : o.op = .call { callee := .builtin .append, args := #[s, x], argTypes := #[22, 22] }) (base : Nat) (v : Value) (ns : List UInt16) (hs : a.eval s = v) (hown : OwnW w base v ns) (hn : ns.length ≤ 1000)
    (b : Nat) (y : UInt16) (hx : a.eval x = .slice (some ⟨b, 0, none⟩) 1 1) (hc : w.cell? ⟨b, 0, none⟩ = some (.int .u16 (y.toNat : Int))) (hbase : base ≤ w.heap.size)
    (h : ∀ v' w', OwnW w' base v' (ns ++ [y]) → Below base w w' → K (a.put o.dst v') w') :
    if Region.wanted o (yielded ops a.tmps) = true then Oper.wp Try.prog o a w K Q else E := by
  have hw : Region.wanted o (yielded ops a.tmps) = true := by simp [Region.wanted, hgd]
  rw [if_pos hw]
  obtain ⟨i0, hi, hz0, hz1, hz2⟩ := info_parts word_info
  obtain ⟨v', w', hr, ho', hg, _⟩ := run_append_own (P := Try.prog) w base 22 o.type 43 i0 (.int .u16 0) 1 2 Try.underlying22 hi hz0 hz1 hz2 rfl (by omega) v ns.length (wvals ns) hown ⟨b, 0, none⟩ 1 1 (wvals [y]) rfl
    (fun j u hj => by
      cases j with
      | zero => simp [wvals] at hj; subst hj; rw [add_plain]; exact hc
      | succ j => simp [wvals] at hj) (fun u hu => by simp [wvals] at hu; subst hu; rfl) (by unfold maxLen; omega) (by omega) hbase
  unfold Oper.wp
  simp [execOp, ho, resolve, invoke, builtin, hs, hx, hr, Result.andThen]
  refine h _ _ ?_ ⟨hg.os, hg.tape, hg.output, hg.size, fun k hk => hg.block k (by omega) (fun e => by have := (World.ownsRow.lt hown k e.symm).1; omega)⟩
  unfold OwnW
  rw [List.length_append, wvals_append]
  exact ho'
theorem has_byte {w : World} {g i : Nat} {bs : List UInt8} (h : Has w g 0 bs) (hi : i < bs.length) : w.cell? ⟨g, i, none⟩ = some (.int .u8 ((bs[i]).toNat : Int)) := by
  have := h i hi
  rwa [Nat.zero_add] at this
theorem cAt_get (bs : List UInt8) (h : bs.length = 123) : cAt bs = (bs[0]'(by omega)).toNat := by
  unfold cAt
  have e : bs.take 1 = [bs[0]'(by omega)] := by
    rw [List.take_succ_eq_append_getElem (by omega), List.take_zero, List.nil_append]
  rw [e]
  simp [num]
theorem wAt_get (bs : List UInt8) (j : Nat) (h : 2 + 2 * j < bs.length) : (wAt bs j).toNat = (bs[1 + 2 * j]'(by omega)).toNat * 256 + (bs[2 + 2 * j]'h).toNat := by
  unfold wAt
  rw [num_u16 _ (by simp; omega)]
  have e : (bs.drop (1 + 2 * j)).take 2 = [bs[1 + 2 * j]'(by omega), bs[2 + 2 * j]'h] := by
    apply List.ext_getElem
    · simp; omega
    · intro i h1 h2
      have : i = 0 ∨ i = 1 := by simp at h2; omega
      rcases this with rfl | rfl
      · simp
      · simp [show 1 + 2 * j + 1 = 2 + 2 * j by omega]
  rw [e]
  simp [num]

set_option maxRecDepth 100000 in
set_option maxHeartbeats 1000000 in
theorem rdecode_len (k : UInt8) (a : Option Addr) (len cap : Nat) (w : World) (h : len ≠ 128) (hm : len ≤ maxLen) :
    Calls Try.prog 14 #[.int .u8 (k.toNat : Int), .slice a len cap] w (DecNo w) := by
  go_enter Try.func14, Try.ntmps14
  go_wp2_with fail
  refine (ropen_len a len cap w h hm).mono ?_
  rintro e w2 ⟨rfl, S2⟩
  go_wp2_with fail
  go_ret2
  exact ⟨rfl, S2.below _⟩

set_option maxRecDepth 100000 in
set_option maxHeartbeats 1000000 in
theorem rdecode_sum (k : UInt8) (b o cap : Nat) (ps : List UInt8) (w : World) (hb : Has w b o ps) (hlen : ps.length = 128) (hc : 128 ≤ cap) (hm : cap ≤ maxLen) (hs : ¬ Oct.Good ps) :
    Calls Try.prog 14 #[.int .u8 (k.toNat : Int), .slice (some ⟨b, o, none⟩) 128 cap] w (DecNo w) := by
  have HO := Lib.hid (ropen_bad b o cap ps w hb hlen hc hm hs)
  clear hb hlen hs
  go_enter Try.func14, Try.ntmps14
  go_wp2_with fail
  refine HO.out.mono ?_
  rintro e w2 ⟨rfl, S2⟩
  go_wp2_with fail
  go_ret2
  exact ⟨rfl, S2.below _⟩

set_option maxRecDepth 100000 in
set_option maxHeartbeats 2000000 in
theorem rdecode_good (k : UInt8) (b o cap : Nat) (ps : List UInt8) (w : World) (hb : Has w b o ps) (hlen : ps.length = 128) (hc : 128 ≤ cap) (hm : cap ≤ maxLen) (hs : Oct.Good ps) :
    Calls Try.prog 14 #[.int .u8 (k.toNat : Int), .slice (some ⟨b, o, none⟩) 128 cap] w (fun e w' => (Holds k ps ∧ RYes w (wIn ps) e w') ∨ (¬ Holds k ps ∧ DecNo w e w')) := by
  have HB := Lib.hid hb
  have HL := Lib.hid hlen
  have HS := Lib.hid hs
  have HO := Lib.hid (ropen_good b o cap ps w hb hlen hc hm hs)
  have hbl : (bodyIn ps).length = 123 := by simp [bodyIn, hlen]
  have HBL := Lib.hid hbl
  generalize (ps[0]'(by omega)) = kd at HO
  clear hb hlen hs
  go_enter Try.func14, Try.ntmps14
  go_wp2_with fail
  refine HO.out.mono ?_
  rintro e w2 ⟨v, rfl, O2, B2⟩
  obtain ⟨a, cp, rfl, _, hcp, hcm, hne⟩ := O2.slice
  obtain ⟨g, rfl, hg1, hg2, hH⟩ := hne (by show bodyIn ps ≠ []; intro e; rw [e] at hbl; simp at hbl)
  have HH := Lib.hid (show Has w2 g 0 (bodyIn ps) from hH)
  have HB2 := Lib.hid B2
  change (bodyIn ps).length ≤ cp at hcp
  rw [show ((ps.drop 1).take 123).length = 123 from hbl]
  rw [hbl] at hcp
  unfold maxLen at hcm
  have g0 := has_byte HH.out (i := 0) (by omega)
  have HCT := Lib.hid (cAt_get (bodyIn ps) hbl)
  generalize (bodyIn ps)[0]'(by omega) = x0 at g0 HCT
  have hx0 := u8_lt x0
  clear O2 B2 hne hH hbl HO
  by_cases hn : x0.toNat ≤ 61
  · have hni : ¬ (61 : Int) < (x0.toNat : Int) := by omega
    go_wp2_with fail
    go_loopw [9, 10] (fun v i wr => ∃ j : Nat, j ≤ x0.toNat ∧ i = .int .i64 (j : Int) ∧ Hid (OwnW wr w2.heap.size v ((List.range j).map (wAt (bodyIn ps)))) ∧ Hid (Below w2.heap.size w2 wr)) (fun _ i _ => x0.toNat - (intOf i).toNat)
    case atStart => exact ⟨0, Nat.zero_le _, rfl, Lib.hid (World.ownsRow_nil _ _ _ _), Lib.hid (Below.refl _ _)⟩
    case round =>
      obtain ⟨j, hj, rfl, HW, HBR⟩ := hrel
      have g0' := (HBR.out.cell (p := ⟨g, 0, none⟩) hg2).trans g0
      by_cases hlt : j < x0.toNat
      · have hbl := HBL.out
        have HHR := HH.out.below hg2 HBR.out
        have c1 := has_byte HHR (i := 1 + 2 * j) (by omega)
        have c2 := has_byte HHR (i := 2 + 2 * j) (by omega)
        have HWG := Lib.hid (wAt_get (bodyIn ps) j (by omega))
        generalize (bodyIn ps)[1 + 2 * j]'(by omega) = a1 at c1 HWG
        generalize (bodyIn ps)[2 + 2 * j]'(by omega) = a2 at c2 HWG
        have hu1 := u8_lt a1
        have hu2 := u8_lt a2
        obtain ⟨l', hl'⟩ : ∃ l', l' = (List.range j).map (wAt (bodyIn ps)) := ⟨_, rfl⟩
        have HLN := Lib.hid (show l'.length = j by rw [hl']; simp)
        have HSN := Lib.hid (show (List.range (j + 1)).map (wAt (bodyIn ps)) = l' ++ [wAt (bodyIn ps) j] by rw [hl', List.range_succ, List.map_append]; rfl)
        rw [← hl'] at HW
        clear hl'
        obtain ⟨y, hy⟩ : ∃ y, y = wAt (bodyIn ps) j := ⟨_, rfl⟩
        rw [← hy] at HWG HSN
        clear hy
        have hjx : (j : Int) < (x0.toNat : Int) := by omega
        have hj61 : (j : Int) < 61 := by omega
        have hj0 : (0 : Int) ≤ (j : Int) := by omega
        have hw0 : IntKind.i64.wrap (2 * (j : Int)) = 2 * (j : Int) := IntWalk.i64_in _ (by omega)
        have hw1 : IntKind.i64.wrap (1 + 2 * (j : Int)) = 1 + 2 * (j : Int) := IntWalk.i64_in _ (by omega)
        have hw2 : IntKind.i64.wrap (2 + 2 * (j : Int)) = 2 + 2 * (j : Int) := IntWalk.i64_in _ (by omega)
        have hb1 : (0 : Int) ≤ 1 + 2 * (j : Int) := by omega
        have hb2 : (0 : Int) ≤ 2 + 2 * (j : Int) := by omega
        have hb3 : 1 + 2 * (j : Int) < 123 := by omega
        have hb4 : 2 + 2 * (j : Int) < 123 := by omega
        have ht1 : (1 + 2 * (j : Int)).toNat = 1 + 2 * j := by omega
        have ht2 : (2 + 2 * (j : Int)).toNat = 2 + 2 * j := by omega
        have hv0 : IntKind.u16.wrap (a1.toNat : Int) = (a1.toNat : Int) := by simp [IntKind.wrap_u16]; omega
        have hv0b : IntKind.u16.wrap (a2.toNat : Int) = (a2.toNat : Int) := by simp [IntKind.wrap_u16]; omega
        have hv1 : IntKind.u16.wrap ((a1.toNat : Int) * 256) = (a1.toNat : Int) * 256 := by simp [IntKind.wrap_u16]; omega
        have hv2 : IntKind.u16.wrap ((a1.toNat : Int) * 256 + (a2.toNat : Int)) = (y.toNat : Int) := by rw [HWG.out]; simp [IntKind.wrap_u16]; omega
        have b3 := ((Below.refl wr.heap.size wr).alloc (Nat.le_refl _) (.cells #[.int .u16 (y.toNat : Int)] 43)).drew
        have HO3 := Lib.hid (HW.out.below b3 (Nat.le_refl _))
        have HB3 := Lib.hid (HBR.out.trans (b3.mono HBR.out.size))
        have HC3 := Lib.hid (show (wr.alloc (.cells #[.int .u16 (y.toNat : Int)] 43)).drew.cell? ⟨wr.heap.size, 0, none⟩ = some (.int .u16 (y.toNat : Int)) from ((sdrew _).cell _).trans ((alloc_rowV wr 43 [.int .u16 (y.toNat : Int)]).cellAt rfl))
        have hsz := Lib.hid (Nat.le_trans HBR.out.size b3.size)
        have hl1000 := Lib.hid (show l'.length ≤ 1000 by rw [HLN.out]; omega)
        clear b3 HW HBR
        go_wp2_with fail
        go_region_law (refine step_word rfl (.tmp 36) (.tmp 53) rfl w2.heap.size _ l' rfl HO3.out hl1000.out _ y rfl HC3.out hsz.out ?_; intro v5 w5 O5 B5)
        all_goals
          have HO5 := Lib.hid O5
          have HB5 := Lib.hid (HB3.out.trans B5)
          clear O5 B5
          go_wp2_with fail
          go_roundw
          case rel => exact ⟨j + 1, by omega, by go_num, Lib.hid (by rw [HSN.out]; exact HO5.out), HB5⟩
          case measure => simp [intOf]; omega
      · obtain rfl : j = x0.toNat := by omega
        have HWE := Lib.hid (show (List.range x0.toNat).map (wAt (bodyIn ps)) = wIn ps by unfold wIn; rw [HCT.out, Nat.min_eq_left hn])
        have hw := HW.out
        rw [HWE.out] at hw
        obtain ⟨A, cc, rfl, hWd, hnil⟩ := OwnW.told hw
        have HWD := Lib.hid hWd
        have hwl := wIn_le ps
        have HBW := Lib.hid (HB2.out.trans (HBR.out.mono HB2.out.size))
        have HPS := Lib.hid (HB.out.below (has_lt HB.out (by rw [HL.out]; decide)) HBW.out)
        clear hw hWd HW HBR
        by_cases hkind : k = 4 ∨ k = 5
        · have HFT := Lib.hid (show Fit k (wIn ps) from ⟨hkind, hwl⟩)
          have HKD := Lib.hid hkind
          have HLP := Lib.hid (length_idxPage k (wIn ps) hwl)
          clear hkind
          go_wp2_with fail
          refine (rencode_yes k HWD.out HFT.out).mono ?_
          rintro e w6 ⟨a', c', rfl, hT6, B6⟩
          have HW6 := Lib.hid (HWD.out.below B6)
          have HB6 := Lib.hid (HBW.out.trans (B6.mono HBW.out.size))
          have h6 := HPS.out.below (has_lt HPS.out (by rw [HL.out]; decide)) B6
          have k1 := conv_told (P := Try.prog) hT6 c' 23 9 5 Try.underlying23 Try.underlying5 Try.underlying9
          have k2 := conv_told (P := Try.prog) h6.told cap 23 9 5 Try.underlying23 Try.underlying5 Try.underlying9
          rw [HLP.out] at k1
          rw [HL.out] at k2
          clear hT6 B6 h6
          by_cases heq : idxPage k (wIn ps) = ps
          · have HEQ := Lib.hid heq
            have hts : (!(idxPage k (wIn ps) == ps)) = false := by rw [heq]; simp
            clear heq
            go_wp2_with fail
            go_ret2
            exact .inl ⟨⟨HL.out, HS.out, HKD.out, HEQ.out⟩, A, _, cc, rfl, HW6.out, HB6.out⟩
          · have HEQ := Lib.hid heq
            have hts : (!(idxPage k (wIn ps) == ps)) = true := by
              rw [Bool.not_eq_true', beq_eq_false_iff_ne]
              exact heq
            clear heq
            go_wp2_with fail
            go_ret2
            exact .inr ⟨fun h => HEQ.out h.2.2.2, rfl, HB6.out⟩
        · have HKD := Lib.hid hkind
          clear hkind
          go_wp2_with fail
          refine (rencode_no k A _ cc (wIn ps) _ rfl (by unfold maxLen; omega) (fun h => HKD.out h.1)).mono ?_
          rintro e w' ⟨rfl, rfl⟩
          go_wp2_with fail
          go_ret2
          exact .inr ⟨fun h => HKD.out h.2.2.1, rfl, HBW.out⟩
  · have hni : (61 : Int) < (x0.toNat : Int) := by omega
    have HNH := Lib.hid (show ¬ Holds k ps from fun h => by
      have e : cAt (bodyIn ps) = (wIn ps).length := by
        have h2 := h.2.2.2
        have hb2 := bodyIn_page k (wIn ps) (wIn_le ps)
        rw [h2] at hb2
        rw [hb2]
        unfold cAt full idxBody
        rw [List.append_assoc]
        exact num_take1 _ (by have := wIn_le ps; omega) _
      have := wIn_le ps
      rw [HCT.out] at e
      omega)
    go_wp2_with fail
    go_ret2
    exact .inr ⟨HNH.out, rfl, HB2.out⟩

theorem rdecode_any (k : UInt8) (a : Option Addr) (len cap : Nat) (ps : List UInt8) (hlen : ps.length = len) (w : World) (hb : Oct.Told w a ps) (hc : len ≤ cap) (hm : cap ≤ maxLen) :
    Calls Try.prog 14 #[.int .u8 (k.toNat : Int), .slice a len cap] w (fun e w' => (Holds k ps ∧ RYes w (wIn ps) e w') ∨ (¬ Holds k ps ∧ DecNo w e w')) := by
  by_cases h : len = 128
  · subst h
    rcases hb with rfl | ⟨b, o, rfl, hb⟩
    · simp at hlen
    · by_cases hs : Oct.Good ps
      · exact rdecode_good k b o cap ps w hb hlen hc hm hs
      · exact (rdecode_sum k b o cap ps w hb hlen hc hm hs).mono fun e w' h => .inr ⟨fun H => hs H.2.1, h⟩
  · exact (rdecode_len k a len cap w h (Nat.le_trans hc hm)).mono fun e w' h' => .inr ⟨fun H => h (hlen ▸ H.1), h'⟩
end Go.Proofs.Ytpkfcbbnfhjjlaa.Ix
