/- The law's own: same, yes. -/
import Derived.Test.YtlemjegngnfanaaPlJ
namespace Go.Proofs.Ytlemjegngnfanaa.Pl
open Go.RowKit Go.Proofs.Ytlemjegngnfanaa.Oct Go.Proofs.Ytlemjegngnfanaa.Mv Go.Proofs.Ytlemjegngnfanaa.Tl Go.Proofs.Ytlemjegngnfanaa.Pk Go.Maps
set_option linter.unusedVariables false

theorem told_nat {w : World} {A : Option Addr} {l : List Nat} (h : ToldV w A (ints l)) {j : Nat} (hj : j < l.length) : ∃ b o, A = some ⟨b, o, none⟩ ∧ b < w.heap.size ∧ w.cell? ⟨b, o + j, none⟩ = some (.int .i64 ((l.getD j 0 : Nat) : Int)) := by
  obtain ⟨b, o, h1, h2⟩ := h.has (by rw [length_ints]; omega)
  refine ⟨b, o, h1, h2.lt (by rw [length_ints]; omega), ?_⟩
  have := h2.cellAt (Tl.ints_at l j hj)
  rw [this]
  simp [hj]
theorem list_ext_getD {l m : List Nat} (hl : l.length = m.length) (h : ∀ j, j < l.length → l.getD j 0 = m.getD j 0) : l = m := by
  apply List.ext_getElem hl
  intro j h1 h2
  have := h j h1
  simpa [h1, h2] using this
set_option maxRecDepth 100000 in
set_option maxHeartbeats 1000000 in
theorem same_any {w : World} {A1 A2 : Option Addr} {c1 c2 : Nat} {l m : List Nat} (h1 : ToldV w A1 (ints l)) (h2 : ToldV w A2 (ints m)) (hl : l.length ≤ 9223372036854775807) (hm : m.length ≤ 9223372036854775807) :
    Calls Try.prog 24 #[.slice A1 l.length c1, .slice A2 m.length c2] w fun e w' => e = .returned (.bool (decide (l = m))) ∧ Below w.heap.size w w' := by
  have H1 := Lib.hid h1
  have H2 := Lib.hid h2
  clear h1 h2
  by_cases hlm : l.length = m.length
  · have hlmi : (l.length : Int) = (m.length : Int) := by omega
    go_enter Try.func24, Try.ntmps24
    go_wp2_with fail
    go_loopw [13] (fun i wr => ∃ k : Nat, k ≤ l.length ∧ i = .int .i64 (k : Int) ∧ Hid (∀ j, j < k → l.getD j 0 = m.getD j 0) ∧ Hid (Below w.heap.size w wr)) (fun i _ => l.length - (Go.RowKit.intOf i).toNat)
    case atStart => exact ⟨0, Nat.zero_le _, rfl, Lib.hid (fun j hj => by omega), Lib.hid (Below.refl _ _)⟩
    case round =>
      obtain ⟨k, hk, rfl, HE, HB⟩ := hrel
      by_cases hlt : k < l.length
      · have hki : (k : Int) < (l.length : Int) := by omega
        have hki2 : (k : Int) < (m.length : Int) := by omega
        have hge : (0 : Int) ≤ (k : Int) := by omega
        obtain ⟨b1, o1, rfl, hb1, hc1⟩ := told_nat H1.out hlt
        obtain ⟨b2, o2, rfl, hb2, hc2⟩ := told_nat H2.out (j := k) (by omega)
        have c1' : wr.cell? ⟨b1, o1 + k, none⟩ = some (.int .i64 ((l.getD k 0 : Nat) : Int)) := (HB.out.cell (p := ⟨b1, o1 + k, none⟩) hb1).trans hc1
        have c2' : wr.cell? ⟨b2, o2 + k, none⟩ = some (.int .i64 ((m.getD k 0 : Nat) : Int)) := (HB.out.cell (p := ⟨b2, o2 + k, none⟩) hb2).trans hc2
        clear hc1 hc2
        have HD := Lib.hid (show l = m → l.getD k 0 = m.getD k 0 from fun e => by rw [e])
        have HE2 := Lib.hid (show l.getD k 0 = m.getD k 0 → ∀ j, j < k + 1 → l.getD j 0 = m.getD j 0 from fun e j hj => (Nat.lt_or_ge j k).elim (HE.out j) (fun h => by rw [show j = k by omega]; exact e))
        generalize l.getD k 0 = x at *
        generalize m.getD k 0 = y at *
        go_upto_region 6 with (fail)
        go_quiet (fail)
        have HB2 := Lib.hid (HB.out.trans ((show Still wr (wr.drewN nq) from ⟨rfl, rfl, rfl, rfl⟩).below _))
        clear c1' c2'
        generalize wr.drewN nq = w2 at *
        by_cases hxy : x = y
        · have hxyi : (x : Int) = (y : Int) := by omega
          have hxyb : ((x : Int) != (y : Int)) = false := by simp [hxy]
          go_wp2_with fail
          go_roundw
          case rel => exact ⟨k + 1, by omega, by go_num, Lib.hid (HE2.out hxy), HB2⟩
          case measure => simp [Go.RowKit.intOf]; omega
        · have hxyi : ¬ ((x : Int) = (y : Int)) := by omega
          have hxyb : ((x : Int) != (y : Int)) = true := by rw [bne_iff_ne]; omega
          go_wp2_with fail
          go_ret
          refine ⟨?_, HB2.out⟩
          rw [decide_eq_false (fun e => hxy (HD.out e))]
          rfl
      · have hki : ¬ (k : Int) < (l.length : Int) := by omega
        obtain rfl : k = l.length := by omega
        go_wp2_with fail
        go_ret
        refine ⟨?_, HB.out⟩
        rw [decide_eq_true (list_ext_getD hlm HE.out)]
        rfl
  · have hlmi : ¬ ((l.length : Int) = (m.length : Int)) := by omega
    have hlmb : ((l.length : Int) != (m.length : Int)) = true := by rw [bne_iff_ne]; omega
    go_enter Try.func24, Try.ntmps24
    go_wp2_with fail
    go_ret
    refine ⟨?_, Below.refl _ _⟩
    rw [decide_eq_false (fun e => hlm (by rw [e]))]
    rfl
set_option maxRecDepth 100000 in
set_option maxHeartbeats 2000000 in
theorem yes_any {w : World} {bb o c : Nat} {f : List Bool} (h2 : HasV w bb o (bools f)) (hf : f.length ≤ 4096) :
    Calls Try.prog 25 #[.slice (some ⟨bb, o, none⟩) f.length c] w fun e w' => ∃ v, e = .returned v ∧ List64 w' v (doneL f) ∧ Below w.heap.size w w' := by
  have H2 := Lib.hid h2
  clear h2
  go_enter Try.func25, Try.ntmps25
  go_wp2_with fail
  go_loopw [7, 3] (fun i v wr => ∃ k : Nat, k ≤ f.length ∧ i = .int .i64 (k : Int) ∧ Hid (OwnI wr w.heap.size v (toI (doneK f k))) ∧ Hid (Below w.heap.size w wr)) (fun i _ _ => f.length - (Go.RowKit.intOf i).toNat)
  case atStart => exact ⟨0, Nat.zero_le _, rfl, Lib.hid (own_nil _ _), Lib.hid (Below.refl _ _)⟩
  case round =>
    obtain ⟨k, hk, rfl, HI, HBr⟩ := hrel
    by_cases hlt : k < f.length
    · have hki : (k : Int) < (f.length : Int) := by omega
      have hge : (0 : Int) ≤ (k : Int) := by omega
      have hbl := H2.out.lt (by rw [length_bools]; omega)
      have e2 : wr.cell? ⟨bb, o + k, none⟩ = some (.bool (f.getD k false)) := (HBr.out.cell (p := ⟨bb, o + k, none⟩) hbl).trans (H2.out.cellAt (bools_at f hlt))
      cases hfk : f.getD k false
      · rw [hfk] at e2
        have HD := Lib.hid (done_no hfk)
        clear hfk
        go_wp2_with fail
        go_roundw
        case rel => exact ⟨k + 1, by omega, by go_num, Lib.hid (by rw [HD.out]; exact HI.out), HBr⟩
        case measure => simp [Go.RowKit.intOf]; omega
      · rw [hfk] at e2
        have HD := Lib.hid (done_yes hfk)
        clear hfk
        have B2 := (Below.refl wr.heap.size wr).alloc (Nat.le_refl _) (.cells #[.int .i64 (k : Int)] 3)
        have R2 := (alloc_rowV wr 3 [.int .i64 (k : Int)]).cellAt (i := 0) rfl
        have hw2 : w.heap.size ≤ (wr.alloc (.cells #[.int .i64 (k : Int)] 3)).heap.size := Nat.le_trans HBr.out.size B2.size
        obtain ⟨v2, w3, hrun, hown, hbel⟩ := push_int (HI.out.below B2) R2 31 (by have := done_le f k; simp [toI]; omega) hw2
        have HI3 := Lib.hid (show OwnI w3 w.heap.size v2 (toI (doneK f (k + 1))) by rw [HD.out]; simpa [toI] using hown)
        have HB3 := Lib.hid ((HBr.out.trans (B2.mono HBr.out.size)).trans hbel)
        clear B2 R2 hw2 hown hbel
        go_wp2_with (at_builtin; refine wpList_append_run rfl (.tmp 14) (.tmp 16) 31 rfl _ _ rfl rfl _ w3 hrun ?_)
        clear hrun
        go_roundw
        case rel => exact ⟨k + 1, by omega, by go_num, HI3, HB3⟩
        case measure => simp [Go.RowKit.intOf]; omega
    · have hki : ¬ (k : Int) < (f.length : Int) := by omega
      obtain rfl : k = f.length := by omega
      go_wp2_with fail
      go_ret
      exact ⟨_, rfl, HI.out.list, HBr.out⟩
end Go.Proofs.Ytlemjegngnfanaa.Pl
