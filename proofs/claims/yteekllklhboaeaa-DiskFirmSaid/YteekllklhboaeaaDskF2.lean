/- The walk of the statement DiskFirm: whatever the writes, the flush and the crash, it answers true and writes nothing that was there. -/
import Derived.Test.YteekllklhboaeaaDskZ
import Derived.Deep.DeepCutAuto
namespace Go.Proofs.Yteekllklhboaeaa.Dsk
open Go.RowKit Go.Proofs.Yteekllklhboaeaa.Oct Go.Maps
set_option linter.unusedVariables false

/-- Each of the late writes of block j is counted. -/
def Late (l : List (UInt8 × UInt8)) (k j n : Nat) (cnt : UInt8 → Nat) : Prop := ∀ p, p ∈ (l.take n).drop k → p.1.toNat % 16 = j → 0 < cnt p.2
theorem late_zero (l : List (UInt8 × UInt8)) (k j : Nat) (cnt : UInt8 → Nat) : Late l k j 0 cnt := fun p hp => by simp at hp
theorem take_drop_succ {α : Type} (l : List α) (k n : Nat) (hn : n < l.length) (p : α) (hp : p ∈ (l.take (n + 1)).drop k) : p ∈ (l.take n).drop k ∨ (p = l[n] ∧ k ≤ n) := by
  rw [take_snoc l n hn] at hp
  by_cases hk : k ≤ n
  · rw [List.drop_append_of_le_length (by simp; omega)] at hp
    rcases List.mem_append.1 hp with h | h
    · exact .inl h
    · exact .inr ⟨List.mem_singleton.1 h, hk⟩
  · rw [List.drop_of_length_le (by simp; omega)] at hp
    cases hp
theorem late_same {l : List (UInt8 × UInt8)} {k j n : Nat} {cnt : UInt8 → Nat} (h : Late l k j n cnt) (hn : n < l.length) (hs : ¬ (l[n].1.toNat % 16 = j ∧ k ≤ n)) : Late l k j (n + 1) cnt := fun p hp hj => by
  rcases take_drop_succ l k n hn p hp with h1 | ⟨rfl, h1⟩
  · exact h p h1 hj
  · exact absurd ⟨hj, h1⟩ hs
theorem late_put {l : List (UInt8 × UInt8)} {k j n : Nat} {cnt : UInt8 → Nat} (h : Late l k j n cnt) (hn : n < l.length) : Late l k j (n + 1) (raised cnt l[n].2) := fun p hp hj => by
  unfold raised
  rcases take_drop_succ l k n hn p hp with h1 | ⟨rfl, h1⟩
  · split
    · omega
    · exact h p h1 hj
  · simp
theorem flags_older {w w' : World} {A : Option Addr} {ks : List Bool} (h : Flags w A ks) (hb : Below w.heap.size w w') : Flags w' A ks := h.below (B := 0) hb
theorem flags_low {w w' : World} {A : Option Addr} {ks : List Bool} {base : Nat} (h : Flags w A ks) (hb : w.heap.size ≤ base) : ks = [] ∨ Aside w' base A := by
  rcases h with h | ⟨b, o, rfl, k⟩
  · exact .inl h
  · by_cases h0 : ks = []
    · exact .inl h0
    · refine .inr fun x hx => .inl ?_
      cases hx
      have := World.block_lt_of_cell? w _ (k 0 (by rcases ks with _ | _; exact absurd rfl h0; simp))
      exact Nat.lt_of_lt_of_le this hb

theorem cached_none {w : World} {base a : Nat} {s : St} (h : Is w base a s) (hW : s.W = []) :
    Calls Try.prog 19 #[.pointer (some ⟨a, 0, none⟩)] w fun e w' => ∃ g, e = .returned (.slice (some ⟨g, 0, none⟩) 0 0) ∧ Below w.heap.size w w' := (cached_is h).mono fun e w' ⟨g, he, _, _, hb⟩ => ⟨g, by rw [he, hW]; rfl, hb⟩
theorem down_no {w : World} {base a : Nat} {s : St} (h : Is w base a s) (hg : s.gone = false) :
    Calls Try.prog 20 #[.pointer (some ⟨a, 0, none⟩)] w fun e w' => e = .returned (.bool false) ∧ w = w' := (down_is h).mono fun e w' ⟨he, hw⟩ => ⟨by rw [he, hg], hw⟩

set_option maxRecDepth 100000 in
set_option maxHeartbeats 4000000 in
theorem firm_walk (A : Option Addr) (len cap m : Nat) (ps : List (UInt8 × UInt8)) (c : UInt8) (KA : Option Addr) (klen kc : Nat) (ks : List Bool) (torn cut : Int) (w : World) (hp : PutsIn w A len cap ps) (hm : m = min len 30) (hkeep : KeepIn w KA klen kc ks) (hcw : (Lit.int .i64 cut).wf = true) :
    Calls Try.prog 4 #[.slice A len cap, .int .u8 (c.toNat : Int), .agg #[.slice KA klen kc, .int .i64 torn, .int .i64 cut]] w (BoolPost w true) := by
  have hle := hp.le
  have hcap := hp.cap
  have HK := Lib.hid hkeep
  have HCW := Lib.hid hcw
  have HP := Lib.hid (hp.pairs.take m)
  have HL := Lib.hid (show (ps.take m).length = m by rw [List.length_take, hp.hlen]; omega)
  generalize ps.take m = l at *
  unfold maxLen at hcap
  have hml : m ≤ len := by omega
  have hm30 : m ≤ 30 := by omega
  have hmin : min (len : Int) 30 = (m : Int) := by omega
  have hc := u8_lt c
  obtain ⟨k, hkd⟩ : ∃ k, k = c.toNat % (m + 1) := ⟨_, rfl⟩
  have HKM := Lib.hid (show k ≤ m by have := Nat.mod_lt c.toNat (show 0 < m + 1 by omega); omega)
  have hmod : (c.toNat : Int) % ((m : Int) + 1) = (k : Int) := by rw [hkd, Int.natCast_emod]; rfl
  have hne0 : ¬ ((m : Int) + 1 = 0) := by omega
  have hnb : ((m : Int) + 1 == 0) = false := by simp; omega
  clear hp hm hkd hkeep hcw
  go_enter Try.func4, Try.ntmps4
  go_wp2_with fail
  rw [hmod]
  clear hmod hne0 hnb
  have b1 := (Below.refl w.heap.size w).alloc (Nat.le_refl _) (.cells #[.slice KA klen kc, .int .i64 torn, .int .i64 cut] 37)
  have R1 := heap_alloc_new w (.cells #[.slice KA klen kc, .int .i64 torn, .int .i64 cut] 37)
  have HB1 := Lib.hid b1
  generalize w.alloc (.cells #[.slice KA klen kc, .int .i64 torn, .int .i64 cut] 37) = w1 at *
  obtain ⟨q, hq⟩ : ∃ q, q = w.heap.size := ⟨_, rfl⟩
  rw [← hq] at R1 ⊢
  have HQ := Lib.hid hq
  have HR1 := Lib.hid R1
  have hq1 : q < w1.heap.size := (Array.getElem?_eq_some_iff.1 R1).1
  clear hq b1 R1
  refine (after_any A m cap l _ (HP.out.older HB1.out) HL.out (by omega) k (by have := HKM.out; omega)).mono ?_
  rintro e w2 ⟨a, rfl, I2, B2⟩
  have HC := Lib.hid (afterTo_calm l k m)
  have HS := Lib.hid (show Stood (afterTo l k m) (l.drop k) (l.take k) by have := stood_all l k (by rw [HL.out]; exact HKM.out); rwa [HL.out] at this)
  generalize afterTo l k m = s at *
  have R2 := (B2.block q hq1).trans HR1.out
  have HR2 := Lib.hid R2
  have HI2 := Lib.hid I2
  have HB2 := Lib.hid (HB1.out.trans (B2.mono HB1.out.size))
  have HQB := Lib.hid (show w.heap.size ≤ w1.heap.size from HB1.out.size)
  generalize w1.heap.size = base at *
  have q2 := cell_of_row w2 q 2 _ _ _ R2
  simp only [List.getElem?_toArray, List.getElem?_cons_zero, List.getElem?_cons_succ] at q2
  clear I2 B2 R2
  go_wp2_with fail
  refine (choose_any cut HCW.out _).mono ?_
  rintro e w' ⟨rfl, rfl⟩
  have hch := chosen_le cut
  generalize chosen cut = ch at *
  have hf2 : w2.frozen? ⟨q, 2, none⟩ = false := frozen_of_row w2 q 2 _ _ HR2.out
  have r3 := heap_setCell_same w2 q 2 _ _ (.int .i64 (ch : Int)) HR2.out
  have HI3 := Lib.hid (is_set (k := 2) HI2.out HR2.out rfl (.int .i64 (ch : Int)))
  have HB3 := Lib.hid (HB2.out.setCell (p := ⟨q, 2, none⟩) (by rw [HQ.out]; exact Nat.le_refl _) (.int .i64 (ch : Int)))
  go_upto_region 7 with (fail)
  generalize w2.setCell ⟨q, 2, none⟩ (.int .i64 (ch : Int)) = w3 at *
  have r3' : w3.heap[q]? = some (.cells #[.slice KA klen kc, .int .i64 torn, .int .i64 (ch : Int)] 37 (0, 0)) := r3
  clear q2 hf2 r3
  have q0 := cell_of_row w3 q 0 _ _ _ r3'
  have q1 := cell_of_row w3 q 1 _ _ _ r3'
  have q2 := cell_of_row w3 q 2 _ _ _ r3'
  simp only [List.getElem?_toArray, List.getElem?_cons_zero, List.getElem?_cons_succ] at q0 q1 q2
  clear r3'
  go_wp2_with fail
  have hbs3 : base ≤ w3.heap.size := by have := HI3.out.lo; have := HI3.out.lt; omega
  refine (crash_yes HI3.out KA klen kc ks HK.out.hlen torn ch hch (Nat.le_trans HK.out.le HK.out.cap) (flags_older HK.out.flags HB3.out) (flags_low HK.out.flags HQB.out)).mono ?_
  rintro e w4 ⟨rfl, I4, T4⟩
  have HI4 := Lib.hid I4
  have HB4 := Lib.hid (HB3.out.trans ((T4.below hbs3).mono HQB.out))
  have HCF := Lib.hid (crashed_frame s ks torn ch)
  have HCA := Lib.hid (show ∀ j, j < 16 → ∀ x, x ∈ (s.crashed ks torn ch).says j → x = lastB (l.take k) j ∨ ∃ p, p ∈ l.drop k ∧ p.1.toNat % 16 = j ∧ x = p.2 from fun j hj x hx => crash_any HS.out ks torn ch j hj x hx)
  have I4' : Is w4 base a (s.crashed ks torn ch) := I4
  have HI4 := Lib.hid I4'
  generalize s.crashed ks torn ch = sc at *
  have HSC := Lib.hid (show sc.gone = false ∧ sc.n = 16 ∧ sc.W = [] from ⟨HCF.out.1, by rw [HCF.out.2.1, HC.out.n], HCF.out.2.2⟩)
  clear I4 I4' T4 q0 q1 q2 HI3 HB3 HR1 HR2 HI2 HB2 HCF HS HC HK hbs3
  go_wp2_with fail
  refine (cached_none HI4.out HSC.out.2.2).mono ?_
  rintro e w5 ⟨g5, rfl, b5⟩
  have HI5 := Lib.hid (HI4.out.below b5)
  have HB5 := Lib.hid (HB4.out.trans (b5.mono HB4.out.size))
  clear b5 HI4 HB4
  go_wp2_with fail
  refine (down_no HI5.out HSC.out.1).mono ?_
  rintro e w' ⟨rfl, rfl⟩
  go_wp2_with fail
  go_loopw [52] (fun i wr => ∃ j : Nat, j ≤ 16 ∧ i = .int .i64 (j : Int) ∧ Below w5.heap.size w5 wr) (fun i _ => 16 - (intOf i).toNat)
  case atStart => exact ⟨0, Nat.zero_le _, rfl, Below.refl _ _⟩
  case round =>
    obtain ⟨j, hj, rfl, hB⟩ := hrel
    have HB := Lib.hid hB
    have HIR := Lib.hid (HI5.out.below hB)
    have HBR := Lib.hid (HB5.out.trans (hB.mono HB5.out.size))
    clear hB
    by_cases hlt : j < 16
    · have hji : (j : Int) < 16 := by omega
      have hmm := @run_makeMap Try.prog
      go_upto_region 13 with (fail)
      obtain ⟨wa, hwa⟩ : ∃ x, x = wr := ⟨_, rfl⟩
      subst hwa
      have HTM := Lib.hid (Tally.made wa)
      have HBM := Lib.hid ((Below.refl wa.heap.size wa).alloc (Nat.le_refl _) (.map #[] 0))
      generalize wa.alloc (.map #[] 0) = wm at *
      obtain ⟨B, hBq⟩ : ∃ B, B = wa.heap.size := ⟨_, rfl⟩
      rw [← hBq] at HTM HBM ⊢
      have HBQ := Lib.hid hBq
      clear hBq hmm
      go_wp2_with fail
      go_loopw [10, 58] (fun v i wr => ∃ n : Nat, n ≤ m ∧ i = .int .i64 (n : Int) ∧ v = .int .u8 ((lastB (l.take (min n k)) j).toNat : Int) ∧ Hid (∃ D cnt, Tally wr B n D cnt ∧ Late l k j n cnt) ∧ Below B wa wr) (fun _ i _ => m - (intOf i).toNat)
      case atStart => exact ⟨0, Nat.zero_le _, rfl, by rw [Nat.zero_min]; rfl, Lib.hid ⟨_, _, HTM.out, late_zero _ _ _ _⟩, HBM.out⟩
      case round =>
        obtain ⟨n, hn, rfl, rfl, HT, hB⟩ := hrel
        have HB2 := Lib.hid hB
        have HIA := Lib.hid (HIR.out.below (by rw [← HBQ.out]; exact hB))
        have HBA := Lib.hid (HBR.out.trans (hB.mono (by rw [HBQ.out]; exact HBR.out.size)))
        clear hB
        obtain ⟨D, cnt, T0, L0⟩ := HT.out
        have HT0 := Lib.hid T0
        have HL0 := Lib.hid L0
        clear T0 L0 HT
        by_cases hlt2 : n < m
        · have hni : (n : Int) < (m : Int) := by omega
          have hnp : n < l.length := by rw [HL.out]; exact hlt2
          obtain ⟨b, o, rfl, c1, c2, hb⟩ := (HP.out.older HBA.out).at n hnp
          have HL1 := Lib.hid (lastB_take l n j hnp)
          have HLS := Lib.hid (late_same HL0.out hnp)
          have HLP := Lib.hid (late_put HL0.out hnp)
          generalize l[n] = p at c1 c2 HL1 HLS HLP
          obtain ⟨c0, d0⟩ := p
          go_upto_region 16 with (fail)
          have b6 := (Below.refl wr.heap.size wr).alloc (Nat.le_refl _) (.cells #[.int .u8 (c0.toNat : Int), .int .u8 (d0.toNat : Int)] 53)
          have R6 := heap_alloc_new wr (.cells #[.int .u8 (c0.toNat : Int), .int .u8 (d0.toNat : Int)] 53)
          have HT6 := Lib.hid (HT0.out.older b6)
          have hBr : B ≤ wr.heap.size := by have := HT0.out.lt; omega
          have HB6 := Lib.hid (HB2.out.trans (b6.mono hBr))
          have hB6 : B ≤ (wr.alloc (.cells #[.int .u8 (c0.toNat : Int), .int .u8 (d0.toNat : Int)] 53)).heap.size := Nat.le_trans hBr b6.size
          generalize wr.alloc (.cells #[.int .u8 (c0.toNat : Int), .int .u8 (d0.toNat : Int)] 53) = w9 at *
          generalize wr.heap.size = r at *
          have e1 : w9.cell? ⟨r, 0, none⟩ = some (.int .u8 (c0.toNat : Int)) := cell_of_row _ _ 0 _ _ _ R6
          have e2 : w9.cell? ⟨r, 1, none⟩ = some (.int .u8 (d0.toNat : Int)) := cell_of_row _ _ 1 _ _ _ R6
          have h8 := u8_lt c0
          clear c1 c2 b6 R6
          by_cases hat : c0.toNat % 16 = j
          · have hati : (c0.toNat : Int) % 16 = (j : Int) := by omega
            by_cases hnk : n < k
            · have hnki : (n : Int) < (k : Int) := by omega
              have HV := Lib.hid (show lastB (l.take (min (n + 1) k)) j = d0 by rw [show min (n + 1) k = n + 1 by omega, HL1.out, if_pos hat])
              go_wp2_with fail
              go_roundw
              case rel => exact ⟨n + 1, by omega, by go_num, by rw [HV.out], Lib.hid ⟨D, cnt, HT6.out.mono (by omega), HLS.out (fun h => by omega)⟩, HB6.out⟩
              case measure => simp [intOf]; omega
            · have hnki : ¬ (n : Int) < (k : Int) := by omega
              have HV := Lib.hid (show lastB (l.take (min (n + 1) k)) j = lastB (l.take (min n k)) j by rw [show min (n + 1) k = k by omega, show min n k = k by omega])
              have hcl : cnt d0 ≤ 30 := by have := HT6.out.le d0; omega
              go_wp2_with (first | (at_lookup; refine HT6.out.look_wp d0 rfl _ _ rfl rfl rfl ?_) | (at_mapUpdate; refine HT6.out.put_wp (by omega) d0 rfl _ _ _ rfl rfl rfl rfl ?_; intro w11 D' T11 G11))
              have HT11 := Lib.hid T11
              have HB11 := Lib.hid (HB6.out.grown G11 hB6 (fun k hk => by cases hk; exact Nat.le_refl _))
              clear T11 G11
              go_roundw
              case rel => exact ⟨n + 1, by omega, by go_num, by rw [HV.out], Lib.hid ⟨D', _, HT11.out, HLP.out⟩, HB11.out⟩
              case measure => simp [intOf]; omega
          · have hati : (c0.toNat : Int) % 16 ≠ (j : Int) := by omega
            have HV := Lib.hid (show lastB (l.take (min (n + 1) k)) j = lastB (l.take (min n k)) j by
              by_cases hnk : n < k
              · rw [show min (n + 1) k = n + 1 by omega, show min n k = n by omega, HL1.out, if_neg hat]
              · rw [show min (n + 1) k = k by omega, show min n k = k by omega])
            go_wp2_with fail
            go_roundw
            case rel => exact ⟨n + 1, by omega, by go_num, by rw [HV.out], Lib.hid ⟨D, cnt, HT6.out.mono (by omega), HLS.out (fun h => hat h.1)⟩, HB6.out⟩
            case measure => simp [intOf]; omega
        · obtain rfl : m = n := by omega
          have HV := Lib.hid (show lastB (l.take (min m k)) j = lastB (l.take k) j by rw [show min m k = k by have := HKM.out; omega])
          have HLL := Lib.hid (show ∀ p, p ∈ l.drop k → p.1.toNat % 16 = j → 0 < cnt p.2 by have := HL0.out; unfold Late at this; rwa [List.take_of_length_le (by rw [HL.out]; omega)] at this)
          rw [HV.out]
          have HCJ := Lib.hid (HCA.out j hlt)
          have HSL := Lib.hid (HIA.out.says_len j (by rw [HSC.out.2.1]; exact hlt))
          generalize lastB (l.take k) j = st at *
          go_wp2_with fail
          refine (read_yes HIA.out HSC.out.1 j (by rw [HSC.out.2.1]; exact hlt)).mono ?_
          rintro e w6 ⟨g, rfl, hg, R6, b6⟩
          have HT6 := Lib.hid (HT0.out.older b6)
          have HB6 := Lib.hid (HB2.out.trans (b6.mono (by have := HT0.out.lt; omega)))
          have HR6 := Lib.hid R6
          clear R6 b6 hg
          generalize sc.says j = bs at *
          go_wp2_with fail
          go_loopw [95] (fun i wr => ∃ n : Nat, n ≤ 128 ∧ i = .int .i64 (n : Int) ∧ Hid (Row wr g bs ∧ Tally wr B m D cnt) ∧ Below B wa wr) (fun i _ => 128 - (intOf i).toNat)
          case atStart => exact ⟨0, Nat.zero_le _, rfl, Lib.hid ⟨HR6.out, HT6.out⟩, HB6.out⟩
          case round =>
            obtain ⟨n, hn, rfl, HRT, hB⟩ := hrel
            have HB7 := Lib.hid hB
            clear hB
            by_cases hlt3 : n < 128
            · have hni : (n : Int) < 128 := by omega
              have hnl : n < bs.length := by rw [HSL.out]; exact hlt3
              have c1 := HRT.out.1.has n hnl
              rw [Nat.zero_add] at c1
              have HX := Lib.hid (HCJ.out bs[n] (List.getElem_mem hnl))
              generalize bs[n] = x at c1 HX
              by_cases hxs : x = st
              · subst hxs
                go_wp2_with fail
                go_roundw
                case rel => exact ⟨n + 1, by omega, by go_num, HRT, HB7.out⟩
                case measure => simp [intOf]; omega
              · have hxi : (x.toNat : Int) ≠ (st.toNat : Int) := fun e => hxs (UInt8.toNat_inj.1 (by omega))
                have hcx : 0 < cnt x := by
                  rcases HX.out with h | ⟨p, hp, hpj, rfl⟩
                  · exact absurd h hxs
                  · exact HLL.out p hp hpj
                have hcn : (cnt x : Int) ≠ 0 := by omega
                have hcb : ((cnt x : Int) == 0) = false := by simp; omega
                have hlook := HRT.out.2.look x
                go_wp2_with fail
                go_roundw
                case rel => exact ⟨n + 1, by omega, by go_num, HRT, HB7.out⟩
                case measure => simp [intOf]; omega
            · obtain rfl : n = 128 := by omega
              have HBW := Lib.hid (HB.out.trans (HB7.out.mono (by rw [HBQ.out]; exact HB.out.size)))
              go_wp2_with fail
              go_roundw
              case rel => exact ⟨j + 1, by omega, by go_num, HBW.out⟩
              case measure => simp [intOf]; omega
    · obtain rfl : j = 16 := by omega
      go_wp2_with fail
      refine (awake_any _).mono ?_
      rintro e w12 ⟨rfl, b12⟩
      have HB13 := Lib.hid (HBR.out.trans (b12.mono HBR.out.size))
      clear b12
      go_wp2_with fail
      go_ret
      exact ⟨rfl, HB13.out⟩
theorem firm_said (A : Option Addr) (len cap : Nat) (ps : List (UInt8 × UInt8)) (z : Int) (KA : Option Addr) (klen kc : Nat) (ks : List Bool) (torn cut : Int) (w : World) (w0 : PutsIn w A len cap ps) (w1 : (Lit.int .u8 z).wf = true) (w2 : KeepIn w KA klen kc ks) (w3 : (Lit.int .i64 torn).wf = true) (w4 : (Lit.int .i64 cut).wf = true) :
    Calls Try.prog 4 #[.slice A len cap, .int .u8 z, .agg #[.slice KA klen kc, .int .i64 torn, .int .i64 cut]] w (BoolPost w true) := by
  obtain ⟨c, rfl⟩ := u8_of w1
  exact firm_walk A len cap _ ps c KA klen kc ks torn cut w w0 rfl w2 w4
end Go.Proofs.Yteekllklhboaeaa.Dsk
