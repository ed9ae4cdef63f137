/- The walk of the statement DiskArmed: whatever the number and the writes, it answers true and writes nothing that was there. -/
import Derived.Test.YteekllklhboaeaaDskS
import Derived.Lib.MinMax
namespace Go.Proofs.Yteekllklhboaeaa.Dsk
open Go.RowKit Go.Proofs.Yteekllklhboaeaa.Oct
set_option linter.unusedVariables false

/-- The disk of the statement behind k writes. -/
structure Armed (many k : Nat) (s : St) : Prop where
  n : s.n = 16
  is : (k ≤ many ∧ s.gone = false ∧ s.armed = true ∧ s.left = many - k ∧ s.W.length = k) ∨ (many < k ∧ s.gone = true ∧ s.W.length = many)
theorem armed_start (many : Nat) : ((fresh 16).doArm (many : Int)).1 = 0 ∧ Armed many 0 ((fresh 16).doArm (many : Int)).2 := by
  have e : (fresh 16).doArm (many : Int) = (0, (fresh 16).arm many) := by
    unfold St.doArm
    rw [if_neg (by decide), if_neg (by omega), Int.toNat_natCast]
  rw [e]
  exact ⟨rfl, rfl, .inl ⟨Nat.zero_le _, rfl, rfl, rfl, rfl⟩⟩
theorem armed_out {many k : Nat} {s : St} (h : Armed many k s) (bs : List UInt8) : s.doWrite 16 bs = (if s.gone = true then 20 else 2, s) := by
  unfold St.doWrite
  by_cases hg : s.gone = true
  · rw [if_pos hg, if_pos hg]
  · rw [if_neg hg, if_neg hg, if_pos (fun hn => by have := h.n; omega)]
theorem armed_yes {many k : Nat} {s : St} (h : Armed many k s) (hk : k < many) (c d : UInt8) :
    (s.doWrite ((c.toNat : Int) % 16) (fill1 d)).1 = 0 ∧ Armed many (k + 1) (s.doWrite ((c.toNat : Int) % 16) (fill1 d)).2 := by
  obtain ⟨h0, hg, ha, hl, hw⟩ := h.is.resolve_right (fun h => by omega)
  have hc : s.can = true := by simp [St.can, ha]; omega
  have e : s.doWrite ((c.toNat : Int) % 16) (fill1 d) = (0, s.spent.wrote (c.toNat % 16) (fill1 d)) := by
    unfold St.doWrite
    rw [if_neg (by rw [hg]; decide), if_neg (fun hn => hn ⟨by omega, by rw [h.n]; omega⟩), if_neg (by rw [length_fill1]; omega), if_neg (by rw [hc]; decide), cast16, Int.toNat_natCast]
  rw [e]
  refine ⟨rfl, h.n, .inl ⟨hk, ?_, ?_, ?_, ?_⟩⟩
  · show (if s.armed && s.left == 0 then true else s.gone) = false
    have : (s.armed && s.left == 0) = false := by simp; omega
    rw [this]; exact hg
  · show (if s.armed && s.left == 0 then false else s.armed) = true
    have : (s.armed && s.left == 0) = false := by simp; omega
    rw [this]; exact ha
  · show (if s.armed then s.left - 1 else s.left) = many - (k + 1)
    rw [ha]; simp; omega
  · show (s.W ++ [_]).length = k + 1
    simp [hw]
theorem armed_met {many k : Nat} {s : St} (h : Armed many k s) (hk : k = many) (c d : UInt8) :
    (s.doWrite ((c.toNat : Int) % 16) (fill1 d)).1 = 20 ∧ Armed many (k + 1) (s.doWrite ((c.toNat : Int) % 16) (fill1 d)).2 := by
  subst hk
  obtain ⟨h0, hg, ha, hl, hw⟩ := h.is.resolve_right (fun h => by omega)
  have h00 : (s.armed && s.left == 0) = true := by simp [ha]; omega
  have hc : s.can = false := by simp only [St.can, h00]; rfl
  have e : s.doWrite ((c.toNat : Int) % 16) (fill1 d) = (20, s.spent) := by
    unfold St.doWrite
    rw [if_neg (by rw [hg]; decide), if_neg (fun hn => hn ⟨by omega, by rw [h.n]; omega⟩), if_neg (by rw [length_fill1]; omega), if_pos hc]
  rw [e]
  refine ⟨rfl, h.n, .inr ⟨by omega, ?_, hw⟩⟩
  show (if s.armed && s.left == 0 then true else s.gone) = true
  rw [h00]; rfl
theorem armed_gone {many k : Nat} {s : St} (h : Armed many k s) (hk : many < k) (c d : UInt8) :
    (s.doWrite ((c.toNat : Int) % 16) (fill1 d)).1 = 20 ∧ Armed many (k + 1) (s.doWrite ((c.toNat : Int) % 16) (fill1 d)).2 := by
  obtain ⟨h0, hg, hw⟩ := h.is.resolve_left (fun h => by omega)
  have e : s.doWrite ((c.toNat : Int) % 16) (fill1 d) = (20, s) := by
    unfold St.doWrite
    rw [if_pos hg]
  rw [e]
  exact ⟨rfl, h.n, .inr ⟨by omega, hg, hw⟩⟩
theorem armed_few {many k : Nat} {s : St} (h : Armed many k s) : s.W.length = min k many := by
  rcases h.is with h | h <;> omega
theorem armed_down {many k : Nat} {s : St} (h : Armed many k s) : s.gone = decide (many < k) := by
  rcases h.is with ⟨h1, h2, _⟩ | ⟨h1, h2, _⟩
  · rw [h2, decide_eq_false (by omega)]
  · rw [h2, decide_eq_true h1]

theorem crashed_calm {s : St} (hn : s.n = 16) (ks : List Bool) (torn : Int) (cut : Nat) : Calm (s.crashed ks torn cut) 0 :=
  ⟨rfl, rfl, (laid_frame s _ s.W.length).1.trans hn, Nat.le_refl _⟩
theorem crash0 (s : St) (ks : List Bool) (torn : Int) : s.doCrash ks torn 0 = (0, s.crashed ks torn 0) := by
  unfold St.doCrash
  rw [if_neg (by omega)]
  rfl
theorem gone_flush {s : St} (h : s.gone = true) : s.doFlush = (20, s) := by unfold St.doFlush; rw [if_pos h]
theorem gone_arm {s : St} (h : s.gone = true) (n : Int) : s.doArm n = (20, s) := by unfold St.doArm; rw [if_pos h]

set_option maxRecDepth 100000 in
set_option maxHeartbeats 4000000 in
theorem armed_walk (c0 : UInt8) (A : Option Addr) (len cap m : Nat) (ps : List (UInt8 × UInt8)) (w : World) (hp : PutsIn w A len cap ps) (hm : m = min len 30) :
    Calls Try.prog 6 #[.int .u8 (c0.toNat : Int), .slice A len cap] w (BoolPost w true) := by
  have hc0 := u8_lt c0
  have hle := hp.le
  have hcap := hp.cap
  have HP := Lib.hid (hp.pairs.take m)
  have HL := Lib.hid (show (ps.take m).length = m by rw [List.length_take, hp.hlen]; omega)
  unfold maxLen at hcap
  have hml : m ≤ len := by omega
  have hm30 : m ≤ 30 := by omega
  have hmin : min (len : Int) 30 = (m : Int) := by omega
  obtain ⟨many, hmany⟩ : ∃ many : Nat, many = c0.toNat % 41 := ⟨_, rfl⟩
  have hmi : (c0.toNat : Int) % 41 = (many : Int) := by omega
  have h41 : many < 41 := by omega
  have HMI := Lib.hid hmi
  clear hp hm hmany hmi
  go_enter Try.func6, Try.ntmps6
  go_wp2_with fail
  rw [HMI.out]
  refine (new_is 16 (by omega) (by omega) _).mono ?_
  rintro e w1 ⟨a, rfl, I1, B1⟩
  have HI1 := Lib.hid I1
  have HB1 := Lib.hid B1
  clear I1 B1
  go_wp2_with fail
  refine (arm_is HI1.out many (by omega)).mono ?_
  rintro e w2 ⟨rfl, I2, T2⟩
  rw [(armed_start many).1]
  have HI2 := Lib.hid (show ∃ s, Armed many 0 s ∧ Is w2 w.heap.size a s from ⟨_, (armed_start many).2, I2⟩)
  have HB2 := Lib.hid (HB1.out.trans (T2.below HB1.out.size))
  clear I2 T2
  go_wp2_with fail
  go_loopw [8, 39] (fun dn i wr => ∃ k : Nat, k ≤ m ∧ i = .int .i64 (k : Int) ∧ dn = .int .i64 ((min k many : Nat) : Int) ∧ Hid (∃ s, Armed many k s ∧ Is wr w.heap.size a s) ∧ Below w.heap.size w wr) (fun _ i _ => m - (intOf i).toNat)
  case atStart => exact ⟨0, Nat.zero_le _, rfl, by simp, HI2, HB2.out⟩
  case round =>
    obtain ⟨k, hk, rfl, rfl, HS, hB⟩ := hrel
    obtain ⟨s, hs, hI⟩ := HS.out
    have HB := Lib.hid hB
    have HPR := Lib.hid (HP.out.older hB)
    have HI := Lib.hid hI
    have HA := Lib.hid hs
    clear hB hI hs HS
    by_cases hlt : k < m
    · have hki : (k : Int) < (m : Int) := by omega
      have hkp : k < (ps.take m).length := by rw [HL.out]; exact hlt
      obtain ⟨b, o, rfl, c1, c2, hb⟩ := HPR.out.at k hkp
      generalize (ps.take m)[k] = p at c1 c2
      obtain ⟨c, d⟩ := p
      go_wp2_with fail
      have b2 := (Below.refl wr.heap.size wr).alloc (Nat.le_refl _) (.cells #[.int .u8 (c.toNat : Int), .int .u8 (d.toNat : Int)] 53)
      have R2 := heap_alloc_new wr (.cells #[.int .u8 (c.toNat : Int), .int .u8 (d.toNat : Int)] 53)
      have HI2 := Lib.hid (HI.out.below b2)
      have HB2 := Lib.hid (HB.out.trans (b2.mono HB.out.size))
      generalize wr.alloc (.cells #[.int .u8 (c.toNat : Int), .int .u8 (d.toNat : Int)] 53) = w2 at *
      obtain ⟨r, hr⟩ : ∃ r, r = wr.heap.size := ⟨_, rfl⟩
      rw [← hr] at R2 ⊢
      have HRR := Lib.hid R2
      clear hr b2 c1 c2 R2
      have hfew : s.W.length < 1000000 := by have := armed_few HA.out; omega
      by_cases hgone : many < k
      · have hg : s.gone = true := by rw [armed_down HA.out, decide_eq_true hgone]
        have HG := Lib.hid hg
        have hdn : ((min k many : Nat) : Int) = (many : Int) := by omega
        have HDN := Lib.hid hdn
        rw [hdn]
        clear hg hdn
        refine (read_off HI2.out HG.out 16).mono ?_
        rintro e w' ⟨rfl, rfl⟩
        go_wp2_with fail
        refine (down_is HI2.out).mono ?_
        rintro e w' ⟨rfl, rfl⟩
        rw [HG.out]
        go_wp2_with fail
        refine (filled_any 0 0 rfl _).mono ?_
        rintro e wf ⟨gf, rfl, hgf, RF, BF⟩
        have HIF := Lib.hid (HI2.out.below BF)
        have HBF := Lib.hid (HB2.out.trans (BF.mono HB2.out.size))
        have HRF := Lib.hid ((BF.block r (Array.getElem?_eq_some_iff.1 HRR.out).1).trans HRR.out)
        have HRW := Lib.hid RF
        clear RF BF
        go_wp2_with fail
        refine (write_is HIF.out hfew 16 _ 128 128 (fill1 0) (length_fill1 0) (fun w' t => (row_turned HRW.out t).has.told)).mono ?_
        rintro e wx ⟨rfl, IX, TX⟩
        have iX := IX
        rw [armed_out HA.out] at iX ⊢
        have HIX := Lib.hid iX.drew
        have HBX := Lib.hid (HBF.out.trans (TX.below HBF.out.size)).drew
        have RX := keep_put HRF.out TX
        have HRX := Lib.hid (show wx.drew.heap[r]? = _ from RX)
        have hrl : r < wx.heap.size := (Array.getElem?_eq_some_iff.1 RX).1
        have c1 : wx.cell? ⟨r, 0, none⟩ = some (.int .u8 (c.toNat : Int)) := cell_of_row _ _ 0 _ _ _ RX
        have c2 : wx.cell? ⟨r, 1, none⟩ = some (.int .u8 (d.toNat : Int)) := cell_of_row _ _ 1 _ _ _ RX
        clear IX TX iX RX
        simp only [HG.out, if_true]
        go_wp2_with fail
        go_region_held3 (fun w' => w'.cell? ⟨r, 0, none⟩ = some (.int .u8 (c.toNat : Int)) ∧ w'.cell? ⟨r, 1, none⟩ = some (.int .u8 (d.toNat : Int))) (first | exact ⟨c1, c2⟩ | exact K3 | exact K4) (first | (go_at_call 26; refine (filled_any _ d rfl _).mono ?_; rintro e w3 ⟨g, rfl, hg, R3, B3⟩; have K3 := And.intro ((B3.cell (p := ⟨r, 0, none⟩) hrl).trans c1) ((B3.cell (p := ⟨r, 1, none⟩) hrl).trans c2); have HR3 := Lib.hid R3; have HB3 := Lib.hid B3; clear R3 B3) | (go_at_call 25; refine (write_is (HIX.out.below HB3.out) hfew _ _ 128 128 (fill1 d) (length_fill1 d) (fun w' t => (row_turned HR3.out t).has.told)).mono ?_; rintro e w4 ⟨rfl, I4, T4⟩; have Q4 := keep_put ((HB3.out.block r hrl).trans HRX.out) T4; have K4 := And.intro (cell_of_row _ _ 0 _ _ _ Q4) (cell_of_row _ _ 1 _ _ _ Q4); have HI4 := Lib.hid I4; have HT4 := Lib.hid T4; clear I4 T4 Q4))
        have i4 := HI4.out
        have st := armed_gone HA.out hgone c d
        rw [mod16t] at i4 ⊢
        rw [st.1]
        have HB4 := Lib.hid (HBX.out.trans ((HB3.out.mono HBX.out.size).trans (HT4.out.below (Nat.le_trans HBX.out.size HB3.out.size))))
        obtain ⟨s4, hs4, hI4⟩ : ∃ s', Armed many (k + 1) s' ∧ Is w4 w.heap.size a s' := ⟨_, st.2, i4⟩
        have HS4 := Lib.hid hs4
        have HI5 := Lib.hid hI4
        clear i4 c1 c2 st hs4 hI4
        go_wp2_with fail
        refine (down_is HI5.out).mono ?_
        rintro e w' ⟨rfl, rfl⟩
        rw [show s4.gone = true by rw [armed_down HS4.out, decide_eq_true (by omega)]]
        go_wp2_with fail
        refine (down_is HI5.out).mono ?_
        rintro e w' ⟨rfl, rfl⟩
        rw [show s4.gone = true by rw [armed_down HS4.out, decide_eq_true (by omega)]]
        go_wp2_with fail
        go_roundw
        case rel => exact ⟨k + 1, by omega, by go_num, by rw [show min (k + 1) many = many by omega], Lib.hid ⟨s4, HS4.out, HI5.out⟩, HB4.out⟩
        case measure => simp [intOf]; omega
      · have hg : s.gone = false := by rw [armed_down HA.out, decide_eq_false hgone]
        have HG := Lib.hid hg
        have hn16 : ¬ ((0 : Int) ≤ 16 ∧ (16 : Int) < s.n) := by have := HA.out.n; omega
        clear hg
        refine (read_bad HI2.out HG.out 16 hn16).mono ?_
        rintro e w' ⟨rfl, rfl⟩
        go_wp2_with fail
        refine (filled_any 0 0 rfl _).mono ?_
        rintro e wf ⟨gf, rfl, hgf, RF, BF⟩
        have HIF := Lib.hid (HI2.out.below BF)
        have HBF := Lib.hid (HB2.out.trans (BF.mono HB2.out.size))
        have HRF := Lib.hid ((BF.block r (Array.getElem?_eq_some_iff.1 HRR.out).1).trans HRR.out)
        have HRW := Lib.hid RF
        clear RF BF
        go_wp2_with fail
        refine (write_is HIF.out hfew 16 _ 128 128 (fill1 0) (length_fill1 0) (fun w' t => (row_turned HRW.out t).has.told)).mono ?_
        rintro e wx ⟨rfl, IX, TX⟩
        have iX := IX
        rw [armed_out HA.out] at iX ⊢
        have HIX := Lib.hid iX.drew
        have HBX := Lib.hid (HBF.out.trans (TX.below HBF.out.size)).drew
        have RX := keep_put HRF.out TX
        have HRX := Lib.hid (show wx.drew.heap[r]? = _ from RX)
        have hrl : r < wx.heap.size := (Array.getElem?_eq_some_iff.1 RX).1
        have c1 : wx.cell? ⟨r, 0, none⟩ = some (.int .u8 (c.toNat : Int)) := cell_of_row _ _ 0 _ _ _ RX
        have c2 : wx.cell? ⟨r, 1, none⟩ = some (.int .u8 (d.toNat : Int)) := cell_of_row _ _ 1 _ _ _ RX
        clear IX TX iX RX
        simp only [HG.out, Bool.false_eq_true, if_false]
        by_cases hmet : k = many
        · have hdn : ((min k many : Nat) : Int) = (many : Int) := by omega
          rw [hdn]
          have HMET := Lib.hid hmet
          clear hmet hdn
          go_wp2_with fail
          go_region_held3 (fun w' => w'.cell? ⟨r, 0, none⟩ = some (.int .u8 (c.toNat : Int)) ∧ w'.cell? ⟨r, 1, none⟩ = some (.int .u8 (d.toNat : Int))) (first | exact ⟨c1, c2⟩ | exact K3 | exact K4) (first | (go_at_call 26; refine (filled_any _ d rfl _).mono ?_; rintro e w3 ⟨g, rfl, hg, R3, B3⟩; have K3 := And.intro ((B3.cell (p := ⟨r, 0, none⟩) hrl).trans c1) ((B3.cell (p := ⟨r, 1, none⟩) hrl).trans c2); have HR3 := Lib.hid R3; have HB3 := Lib.hid B3; clear R3 B3) | (go_at_call 25; refine (write_is (HIX.out.below HB3.out) hfew _ _ 128 128 (fill1 d) (length_fill1 d) (fun w' t => (row_turned HR3.out t).has.told)).mono ?_; rintro e w4 ⟨rfl, I4, T4⟩; have Q4 := keep_put ((HB3.out.block r hrl).trans HRX.out) T4; have K4 := And.intro (cell_of_row _ _ 0 _ _ _ Q4) (cell_of_row _ _ 1 _ _ _ Q4); have HI4 := Lib.hid I4; have HT4 := Lib.hid T4; clear I4 T4 Q4))
          have i4 := HI4.out
          have st := armed_met HA.out HMET.out c d
          rw [mod16t] at i4 ⊢
          rw [st.1]
          have HB4 := Lib.hid (HBX.out.trans ((HB3.out.mono HBX.out.size).trans (HT4.out.below (Nat.le_trans HBX.out.size HB3.out.size))))
          obtain ⟨s4, hs4, hI4⟩ : ∃ s', Armed many (k + 1) s' ∧ Is w4 w.heap.size a s' := ⟨_, st.2, i4⟩
          have HS4 := Lib.hid hs4
          have HI5 := Lib.hid hI4
          clear i4 c1 c2 st hs4 hI4
          go_wp2_with fail
          refine (down_is HI5.out).mono ?_
          rintro e w' ⟨rfl, rfl⟩
          rw [show s4.gone = true by rw [armed_down HS4.out, decide_eq_true (by have := HMET.out; omega)]]
          go_wp2_with fail
          go_roundw
          case rel => exact ⟨k + 1, by omega, by go_num, by rw [show min (k + 1) many = many by have := HMET.out; omega], Lib.hid ⟨s4, HS4.out, HI5.out⟩, HB4.out⟩
          case measure => simp [intOf]; omega
        · have hky : k < many := by omega
          have hkyi : (k : Int) < (many : Int) := by omega
          have hdn : ((min k many : Nat) : Int) = (k : Int) := by omega
          rw [hdn]
          clear hmet hdn
          go_wp2_with fail
          go_region_held3 (fun w' => w'.cell? ⟨r, 0, none⟩ = some (.int .u8 (c.toNat : Int)) ∧ w'.cell? ⟨r, 1, none⟩ = some (.int .u8 (d.toNat : Int))) (first | exact ⟨c1, c2⟩ | exact K3 | exact K4) (first | (go_at_call 26; refine (filled_any _ d rfl _).mono ?_; rintro e w3 ⟨g, rfl, hg, R3, B3⟩; have K3 := And.intro ((B3.cell (p := ⟨r, 0, none⟩) hrl).trans c1) ((B3.cell (p := ⟨r, 1, none⟩) hrl).trans c2); have HR3 := Lib.hid R3; have HB3 := Lib.hid B3; clear R3 B3) | (go_at_call 25; refine (write_is (HIX.out.below HB3.out) hfew _ _ 128 128 (fill1 d) (length_fill1 d) (fun w' t => (row_turned HR3.out t).has.told)).mono ?_; rintro e w4 ⟨rfl, I4, T4⟩; have Q4 := keep_put ((HB3.out.block r hrl).trans HRX.out) T4; have K4 := And.intro (cell_of_row _ _ 0 _ _ _ Q4) (cell_of_row _ _ 1 _ _ _ Q4); have HI4 := Lib.hid I4; have HT4 := Lib.hid T4; clear I4 T4 Q4))
          have i4 := HI4.out
          have st := armed_yes HA.out hky c d
          rw [mod16t] at i4 ⊢
          rw [st.1]
          have HB4 := Lib.hid (HBX.out.trans ((HB3.out.mono HBX.out.size).trans (HT4.out.below (Nat.le_trans HBX.out.size HB3.out.size))))
          obtain ⟨s4, hs4, hI4⟩ : ∃ s', Armed many (k + 1) s' ∧ Is w4 w.heap.size a s' := ⟨_, st.2, i4⟩
          have HS4 := Lib.hid hs4
          have HI5 := Lib.hid hI4
          clear i4 c1 c2 st hs4 hI4
          go_wp2_with fail
          go_roundw
          case rel => exact ⟨k + 1, by omega, by go_num, by rw [show min (k + 1) many = k + 1 by omega]; go_num, Lib.hid ⟨s4, HS4.out, HI5.out⟩, HB4.out⟩
          case measure => simp [intOf]; omega
    · obtain rfl : m = k := by omega
      have hmm : min (many : Int) (m : Int) = ((min m many : Nat) : Int) := by omega
      have hwl := armed_few HA.out
      have hgd := armed_down HA.out
      have HWL := Lib.hid hwl
      have HGD := Lib.hid hgd
      clear hwl hgd
      by_cases hdown : many < m
      · have hdi : (many : Int) < (m : Int) := by omega
        have HG := Lib.hid (show s.gone = true by rw [HGD.out, decide_eq_true hdown])
        have hmn : min m many = many := by omega
        have HMN := Lib.hid hmn
        rw [hmn] at hmm ⊢
        clear hmn
        go_wp2_with fail
        refine (cached_is HI.out).mono ?_
        rintro e w3 ⟨g, rfl, hg, RI, b3⟩
        rw [HWL.out, HMN.out]
        have HI3 := Lib.hid (HI.out.below b3)
        have HB3 := Lib.hid (HB.out.trans (b3.mono HB.out.size))
        clear RI b3 hg
        go_wp2_with fail
        refine (down_is HI3.out).mono ?_
        rintro e w' ⟨rfl, rfl⟩
        rw [HG.out]
        go_wp2_with fail
        refine (down_is HI3.out).mono ?_
        rintro e w' ⟨rfl, rfl⟩
        rw [HG.out]
        go_wp2_with fail
        refine (read_off HI3.out HG.out 0).mono ?_
        rintro e w' ⟨rfl, rfl⟩
        go_wp2_with fail
        refine (flush_is HI3.out).mono ?_
        rintro e w4 ⟨rfl, I4, T4⟩
        rw [gone_flush HG.out] at I4 ⊢
        have HI4 := Lib.hid I4
        have HB4 := Lib.hid (HB3.out.trans (T4.below HB3.out.size))
        clear I4 T4
        go_wp2_with fail
        refine (arm_is HI4.out 5 (by omega)).mono ?_
        rintro e w5 ⟨rfl, I5, T5⟩
        rw [gone_arm HG.out] at I5 ⊢
        have HI5 := Lib.hid I5
        have HB5 := Lib.hid (HB4.out.trans (T5.below HB4.out.size))
        clear I5 T5
        go_wp2_with fail
        refine (crash_is HI5.out none 0 0 [] rfl (-1) 0 (by decide) (.inl rfl) (aside_none _ _)).mono ?_
        rintro e w6 ⟨rfl, I6, T6⟩
        rw [crash0] at I6 ⊢
        have HC6 := Lib.hid (crashed_calm HA.out.n [] (-1) 0)
        have HI6 := Lib.hid I6
        have HB6 := Lib.hid (HB5.out.trans (T6.below HB5.out.size))
        clear I6 T6
        generalize s.crashed [] (-1) 0 = s6 at *
        go_wp2_with fail
        refine (down_is HI6.out).mono ?_
        rintro e w' ⟨rfl, rfl⟩
        rw [HC6.out.gone]
        go_wp2_with fail
        go_loopw [152] (fun i wr => ∃ j : Nat, j ≤ 50 ∧ i = .int .i64 (j : Int) ∧ Hid (∃ s, Calm s 0 ∧ Is wr w.heap.size a s) ∧ Below w.heap.size w wr) (fun i _ => 50 - (intOf i).toNat)
        case atStart => exact ⟨0, by omega, rfl, Lib.hid ⟨s6, HC6.out, HI6.out⟩, HB6.out⟩
        case round =>
          obtain ⟨j, hj, rfl, HS7, hB7⟩ := hrel
          obtain ⟨s7, hC7, hI7⟩ := HS7.out
          have HC7 := Lib.hid hC7
          have HI7 := Lib.hid hI7
          have HB7 := Lib.hid hB7
          clear hB7 hC7 hI7 HS7
          by_cases hlt7 : j < 50
          · have hji : (j : Int) < 50 := by omega
            go_wp2_with fail
            refine (flush_is HI7.out).mono ?_
            rintro e w8 ⟨rfl, I8, T8⟩
            rw [HC7.out.flush] at I8 ⊢
            have HI8 := Lib.hid I8
            have HB8 := Lib.hid (HB7.out.trans (T8.below HB7.out.size))
            clear I8 T8
            go_wp2_with fail
            go_roundw
            case rel => exact ⟨j + 1, by omega, by go_num, Lib.hid ⟨_, HC7.out.flushed, HI8.out⟩, HB8.out⟩
            case measure => simp [intOf]; omega
          · obtain rfl : j = 50 := by omega
            go_wp2_with fail
            refine (awake_any _).mono ?_
            rintro e w9 ⟨rfl, b9⟩
            have HB9 := Lib.hid (HB7.out.trans (b9.mono HB7.out.size))
            clear b9
            go_wp2_with fail
            go_ret
            exact ⟨rfl, HB9.out⟩
      · have hdi : decide ((many : Int) < (m : Int)) = false := by simp; omega
        have HG := Lib.hid (show s.gone = false by rw [HGD.out, decide_eq_false hdown])
        have hmn : min m many = m := by omega
        have HMN := Lib.hid hmn
        rw [hmn] at hmm ⊢
        clear hmn
        go_wp2_with fail
        refine (cached_is HI.out).mono ?_
        rintro e w3 ⟨g, rfl, hg, RI, b3⟩
        rw [HWL.out, HMN.out]
        have HI5 := Lib.hid (HI.out.below b3)
        have HB5 := Lib.hid (HB.out.trans (b3.mono HB.out.size))
        clear RI b3 hg
        go_wp2_with fail
        refine (down_is HI5.out).mono ?_
        rintro e w' ⟨rfl, rfl⟩
        rw [HG.out]
        go_wp2_with fail
        refine (down_is HI5.out).mono ?_
        rintro e w' ⟨rfl, rfl⟩
        rw [HG.out]
        go_wp2_with fail
        refine (crash_is HI5.out none 0 0 [] rfl (-1) 0 (by decide) (.inl rfl) (aside_none _ _)).mono ?_
        rintro e w6 ⟨rfl, I6, T6⟩
        rw [crash0] at I6 ⊢
        have HC6 := Lib.hid (crashed_calm HA.out.n [] (-1) 0)
        have HI6 := Lib.hid I6
        have HB6 := Lib.hid (HB5.out.trans (T6.below HB5.out.size))
        clear I6 T6
        generalize s.crashed [] (-1) 0 = s6 at *
        go_wp2_with fail
        refine (down_is HI6.out).mono ?_
        rintro e w' ⟨rfl, rfl⟩
        rw [HC6.out.gone]
        go_wp2_with fail
        go_loopw [152] (fun i wr => ∃ j : Nat, j ≤ 50 ∧ i = .int .i64 (j : Int) ∧ Hid (∃ s, Calm s 0 ∧ Is wr w.heap.size a s) ∧ Below w.heap.size w wr) (fun i _ => 50 - (intOf i).toNat)
        case atStart => exact ⟨0, by omega, rfl, Lib.hid ⟨s6, HC6.out, HI6.out⟩, HB6.out⟩
        case round =>
          obtain ⟨j, hj, rfl, HS7, hB7⟩ := hrel
          obtain ⟨s7, hC7, hI7⟩ := HS7.out
          have HC7 := Lib.hid hC7
          have HI7 := Lib.hid hI7
          have HB7 := Lib.hid hB7
          clear hB7 hC7 hI7 HS7
          by_cases hlt7 : j < 50
          · have hji : (j : Int) < 50 := by omega
            go_wp2_with fail
            refine (flush_is HI7.out).mono ?_
            rintro e w8 ⟨rfl, I8, T8⟩
            rw [HC7.out.flush] at I8 ⊢
            have HI8 := Lib.hid I8
            have HB8 := Lib.hid (HB7.out.trans (T8.below HB7.out.size))
            clear I8 T8
            go_wp2_with fail
            go_roundw
            case rel => exact ⟨j + 1, by omega, by go_num, Lib.hid ⟨_, HC7.out.flushed, HI8.out⟩, HB8.out⟩
            case measure => simp [intOf]; omega
          · obtain rfl : j = 50 := by omega
            go_wp2_with fail
            refine (awake_any _).mono ?_
            rintro e w9 ⟨rfl, b9⟩
            have HB9 := Lib.hid (HB7.out.trans (b9.mono HB7.out.size))
            clear b9
            go_wp2_with fail
            go_ret
            exact ⟨rfl, HB9.out⟩
theorem armed_said (n : Int) (A : Option Addr) (len cap : Nat) (ps : List (UInt8 × UInt8)) (w : World) (w0 : (Lit.int .u8 n).wf = true) (w1 : PutsIn w A len cap ps) :
    Calls Try.prog 6 #[.int .u8 n, .slice A len cap] w (BoolPost w true) := by
  obtain ⟨c, rfl⟩ := u8_of w0
  exact armed_walk c A len cap _ ps w w1 rfl
end Go.Proofs.Yteekllklhboaeaa.Dsk
