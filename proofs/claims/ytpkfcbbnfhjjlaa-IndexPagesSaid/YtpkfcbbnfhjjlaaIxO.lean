/- The walk of IndexOwn. -/
import Derived.Test.YtpkfcbbnfhjjlaaIxP
namespace Go.Proofs.Ytpkfcbbnfhjjlaa.Ix
open Go.RowKit Go.Proofs.Ytpkfcbbnfhjjlaa.Oct Go.Proofs.Ytpkfcbbnfhjjlaa.Sf
set_option linter.unusedVariables false

/-- Nothing has turned but block p. -/
structure But (w w' : World) (p : Nat) : Prop where
  os : w'.os = w.os
  tape : w'.tape = w.tape
  output : w'.output = w.output
  size : w'.heap.size = w.heap.size
  block : ∀ k, k ≠ p → w'.heap[k]? = w.heap[k]?
theorem But.refl (w : World) (p : Nat) : But w w p := ⟨rfl, rfl, rfl, rfl, fun _ _ => rfl⟩
theorem But.set {w w' : World} {p : Nat} (h : But w w' p) (i : Nat) (v : Value) : But w (w'.setCell ⟨p, i, none⟩ v) p :=
  ⟨h.os, h.tape, h.output, by simp [h.size], fun k hk => (heap_setCell_other _ _ _ _ hk).trans (h.block k hk)⟩
theorem But.below {w w' : World} {p B : Nat} (h : But w w' p) (hp : B ≤ p) : Below B w w' := ⟨h.os, h.tape, h.output, by rw [h.size]; exact Nat.le_refl _, fun k hk => h.block k (by omega)⟩
theorem OwnW.split {w : World} {base : Nat} {v : Value} {l : List UInt16} (h : OwnW w base v l) :
    (v = .slice none 0 0 ∧ l = []) ∨ ∃ p cap vs, v = .slice (some ⟨p, 0, none⟩) l.length cap ∧ base ≤ p ∧ RowV w p 43 vs ∧ vs.length = cap ∧ l.length ≤ cap ∧ cap ≤ maxLen := by
  rcases h.2 with ⟨rfl, h0⟩ | ⟨g, cap, cur, rfl, hb, hg, hn, hm, hs, ht⟩
  · exact .inl ⟨rfl, List.eq_nil_of_length_eq_zero h0⟩
  · exact .inr ⟨g, cap, cur.toList, rfl, hb, by unfold RowV; simpa using hg, by simpa using hs, hn, hm⟩
theorem OwnW.but {w w' : World} {base p : Nat} {v : Value} {l : List UInt16} (h : OwnW w base v l) (k : But w w' p) (hp : p < base) : OwnW w' base v l := h.same fun i e _ => k.block i (by have := (World.ownsRow.lt h i e).1; omega)
theorem Wrote.lone {w w' : World} {b lo hi : Nat} (W : Wrote w w' b lo hi) : But w w' b := ⟨W.os, W.tape, W.output, W.size, W.block⟩

set_option maxRecDepth 100000 in
set_option maxHeartbeats 1000000 in
theorem own_walk (A : Option Addr) (n c : Nat) (l : List UInt16) (w : World) (h : Wd w A n c l) (hnil : A = none → c = 0) :
    Calls Try.prog 8 #[.slice A n c] w fun e w' => e = .returned (.bool true) ∧ Below w.heap.size w w' := by
  have HD := Lib.hid h
  have hcm := h.km
  have hnc := h.kc
  unfold maxLen at hcm
  have HL := Lib.hid h.el
  clear h hnil
  by_cases hn : n ≤ 61
  · have HF := Lib.hid (show Fit 4 l from ⟨.inl rfl, by rw [HL.out]; exact hn⟩)
    go_enter Try.func8, Try.ntmps8
    go_wp2_with fail
    refine (encode_yes 4 HD.out HF.out).mono ?_
    rintro e w1 ⟨g, rfl, F1⟩
    have HF1 := Lib.hid F1
    have HP1 := Lib.hid (show Has w1 g 0 (idxPage 4 l) from F1.has)
    clear F1
    go_wp2_with fail
    refine (decode_page 4 g 0 128 l _ HF.out HP1.out (by decide) (by decide)).mono ?_
    rintro e w2 ⟨v1, rfl, O2, B2⟩
    have HO2 := Lib.hid O2
    have HB2 := Lib.hid B2
    have HP2 := Lib.hid (HP1.out.below HF1.out.hi B2)
    clear O2 B2
    obtain ⟨A1, c1, hv1, _, _⟩ := OwnW.told HO2.out
    subst hv1
    go_wp2_with fail
    refine (decode_page 4 g 0 128 l _ HF.out HP2.out (by decide) (by decide)).mono ?_
    rintro e w3 ⟨v2, rfl, O3, B3⟩
    obtain ⟨A2, c2, hv2, _, _⟩ := OwnW.told O3
    subst hv2
    have HO3 := Lib.hid O3
    have hg2 : g < w2.heap.size := Nat.lt_of_lt_of_le HF1.out.hi HB2.out.size
    have HP3 := Lib.hid (HP2.out.below hg2 B3)
    have HO1 := Lib.hid (HO2.out.below B3 (Nat.le_refl _))
    have HBW := Lib.hid ((HF1.out.below.trans (HB2.out.mono HF1.out.below.size)).trans (B3.mono (Nat.le_trans HF1.out.below.size HB2.out.size)))
    have HFZ := Lib.hid (show ∀ i, i < 128 → w3.frozen? ⟨g, i, none⟩ = false from fun i hi => by
      have := HF1.out.free i (by have := length_idxPage 4 l HF.out.2; unfold idxPage at this; rw [this]; exact hi)
      rw [Nat.zero_add] at this
      exact (B3.frozen (p := ⟨g, i, none⟩) hg2).trans ((HB2.out.frozen (p := ⟨g, i, none⟩) HF1.out.hi).trans this))
    have hgw : w.heap.size ≤ g := HF1.out.lo
    have hg1 : g < w1.heap.size := HF1.out.hi
    have HLT := Lib.hid (show ∀ k, (Value.slice A1 l.length c1).ownBlock = some k → w1.heap.size ≤ k ∧ k < w2.heap.size from World.ownsRow.lt HO2.out)
    clear O3 B3 HO2 HP2 HP1
    rcases OwnW.split HO1.out with ⟨e1, e2⟩ | ⟨p, cap, vs, e1, hbp, RV, hvl, hlc, hcm1⟩
    · simp only [Value.slice.injEq] at e1
      obtain ⟨rfl, e3, rfl⟩ := e1
      have HPa := HP3
      have HFa := HFZ
      have HOa := HO3
      have HBa := HBW
      clear HLT
      rw [e3]
      go_wp2_with fail
      obtain ⟨wr, hwr⟩ : ∃ x, x = w3 := ⟨_, rfl⟩
      subst hwr
      go_loopw [36] (fun i wq => i = .int .i64 0 ∧ wq = wr) (fun i _ => 0)
      case atStart => exact ⟨rfl, rfl⟩
      case round =>
        obtain ⟨rfl, rfl⟩ := hrel
        go_wp2_with fail
        obtain ⟨wm, hwm⟩ : ∃ x, x = wr := ⟨_, rfl⟩
        subst hwm
        have O8 := Over.start HPa.out (length_idxPage 4 l HF.out.2)
        go_wp2_with fail
        go_loopw [45] (fun i wv => ∃ z : Nat, z ≤ 128 ∧ i = .int .i64 (z : Int) ∧ Hid (Over wm wv g 128)) (fun i _ => 128 - (intOf i).toNat)
        case atStart => exact ⟨0, Nat.zero_le _, rfl, Lib.hid O8⟩
        case round =>
          obtain ⟨z, hz, rfl, HO⟩ := hrel
          clear O8
          by_cases hzt : z < 128
          · obtain ⟨cc, hcell⟩ := HO.out.at hzt
            have hfz := (HO.out.wrote.frz ⟨g, z, none⟩).trans (HFa.out z hzt)
            have HON := Lib.hid (HO.out.next hzt 9 9 rfl)
            have hzc : (z : Int) < 128 := by omega
            go_wp2_with fail
            go_roundw
            case rel => exact ⟨z + 1, by omega, by go_num, Lib.hid HON.out⟩
            case measure => simp [intOf]; omega
          · have hO9 := Lib.hid (HOa.out.but (Wrote.lone HO.out.wrote) hg2)
            have hB9 := Lib.hid (HBa.out.trans ((Wrote.lone HO.out.wrote).below hgw))
            obtain ⟨A3, c3, e3, hW3, _⟩ := OwnW.told hO9.out
            simp only [Value.slice.injEq] at e3
            obtain ⟨rfl, _, rfl⟩ := e3
            have hnn2 := e3
            rw [hnn2] at hW3
            have HQ := Lib.hid (eqwords_any hW3 (HD.out.below hB9.out))
            clear HO hW3
            go_wp2_with fail
            with_reducible refine HQ.out.mono ?_
            rintro e u1 ⟨rfl, S1⟩
            rw [show (l == l) = true from by simp]
            have HB10 := Lib.hid (hB9.out.trans (S1.below _))
            clear S1
            go_wp2_with fail
            refine (awake_any _).mono ?_
            rintro e u2 ⟨rfl, B11⟩
            have HB11 := Lib.hid (HB10.out.trans (B11.mono HB10.out.size))
            clear B11
            go_wp2_with fail
            go_ret
            exact ⟨rfl, HB11.out⟩
    · simp only [Value.slice.injEq] at e1
      obtain ⟨rfl, _, rfl⟩ := e1
      have hp2 : w1.heap.size ≤ p ∧ p < w2.heap.size := HLT.out p rfl
      have HRV := Lib.hid RV
      have hvl2 := Lib.hid hvl
      have hnn : l.length = n := HL.out
      unfold maxLen at hcm1
      clear RV hvl HLT
      go_wp2_with fail
      go_loopw [36] (fun i wr => ∃ k : Nat, k ≤ c1 ∧ i = .int .i64 (k : Int) ∧ Hid (∃ xs : List Value, xs.length = c1 ∧ RowV wr p 43 xs) ∧ Hid (But w3 wr p)) (fun i _ => c1 - (intOf i).toNat)
      case atStart => exact ⟨0, Nat.zero_le _, rfl, Lib.hid ⟨vs, hvl2.out, HRV.out⟩, Lib.hid (But.refl _ _)⟩
      case round =>
        obtain ⟨k, hk, rfl, HR, HBt⟩ := hrel
        by_cases hlt : k < c1
        · obtain ⟨xs, hxl, RX⟩ := HR.out
          have e1 := RX.cellAt (i := k) (List.getElem?_eq_getElem (by rw [hxl]; exact hlt))
          generalize xs[k]'(by rw [hxl]; exact hlt) = xk at e1
          have f1 := RX.free k
          have HR2 := Lib.hid (show ∃ ys : List Value, ys.length = c1 ∧ RowV (wr.setCell ⟨p, k, none⟩ (.int .u16 7)) p 43 ys from
            ⟨xs.set k (.int .u16 7), by rw [List.length_set]; exact hxl, RX.set k (.int .u16 7)⟩)
          have HB2 := Lib.hid (HBt.out.set k (.int .u16 7))
          have hkc : (k : Int) < (c1 : Int) := by omega
          clear RX HR HBt hxl
          go_wp2_with fail
          go_roundw
          case rel => exact ⟨k + 1, by omega, by go_num, HR2, HB2⟩
          case measure => simp [intOf]; omega
        · have HPa := Lib.hid (show Has wr g 0 (idxPage 4 l) from fun i hi => (World.cell?_of_block (HBt.out.block g (by omega))).trans (HP3.out i hi))
          have HFa := Lib.hid (show ∀ i, i < 128 → wr.frozen? ⟨g, i, none⟩ = false from fun i hi => (World.frozen?_of_block (a := ⟨g, i, none⟩) (HBt.out.block g (by omega))).trans (HFZ.out i hi))
          have HOa := Lib.hid (HO3.out.but HBt.out hp2.2)
          have HBa := Lib.hid (HBW.out.trans (HBt.out.below (B := w.heap.size) (by omega)))
          clear HR HBt
          obtain ⟨wm, hwm⟩ : ∃ x, x = wr := ⟨_, rfl⟩
          subst hwm
          have O8 := Over.start HPa.out (length_idxPage 4 l HF.out.2)
          go_wp2_with fail
          go_loopw [45] (fun i wv => ∃ z : Nat, z ≤ 128 ∧ i = .int .i64 (z : Int) ∧ Hid (Over wm wv g 128)) (fun i _ => 128 - (intOf i).toNat)
          case atStart => exact ⟨0, Nat.zero_le _, rfl, Lib.hid O8⟩
          case round =>
            obtain ⟨z, hz, rfl, HO⟩ := hrel
            clear O8
            by_cases hzt : z < 128
            · obtain ⟨cc, hcell⟩ := HO.out.at hzt
              have hfz := (HO.out.wrote.frz ⟨g, z, none⟩).trans (HFa.out z hzt)
              have HON := Lib.hid (HO.out.next hzt 9 9 rfl)
              have hzc : (z : Int) < 128 := by omega
              go_wp2_with fail
              go_roundw
              case rel => exact ⟨z + 1, by omega, by go_num, Lib.hid HON.out⟩
              case measure => simp [intOf]; omega
            · have hO9 := Lib.hid (HOa.out.but (Wrote.lone HO.out.wrote) hg2)
              have hB9 := Lib.hid (HBa.out.trans ((Wrote.lone HO.out.wrote).below hgw))
              obtain ⟨A3, c3, e3, hW3, _⟩ := OwnW.told hO9.out
              simp only [Value.slice.injEq] at e3
              obtain ⟨rfl, _, rfl⟩ := e3
              have hnn2 : l.length = n := HL.out
              rw [hnn2] at hW3
              have HQ := Lib.hid (eqwords_any hW3 (HD.out.below hB9.out))
              clear HO hW3
              go_wp2_with fail
              with_reducible refine HQ.out.mono ?_
              rintro e u1 ⟨rfl, S1⟩
              rw [show (l == l) = true from by simp]
              have HB10 := Lib.hid (hB9.out.trans (S1.below _))
              clear S1
              go_wp2_with fail
              refine (awake_any _).mono ?_
              rintro e u2 ⟨rfl, B11⟩
              have HB11 := Lib.hid (HB10.out.trans (B11.mono HB10.out.size))
              clear B11
              go_wp2_with fail
              go_ret
              exact ⟨rfl, HB11.out⟩
  · go_enter Try.func8, Try.ntmps8
    go_wp2_with fail
    refine (awake_any _).mono ?_
    rintro e w2 ⟨rfl, B2⟩
    go_wp2_with fail
    go_ret
    exact ⟨rfl, B2⟩
end Go.Proofs.Ytpkfcbbnfhjjlaa.Ix
