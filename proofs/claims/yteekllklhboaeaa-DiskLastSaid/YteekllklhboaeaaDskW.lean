/- The walk of the statement DiskLast: whatever the writes and the flush, it answers true and writes nothing that was there. -/
import Derived.Test.YteekllklhboaeaaDskY
import Derived.Test.YteekllklhboaeaaDskU
import Derived.Deep.DeepCutAuto
namespace Go.Proofs.Yteekllklhboaeaa.Dsk
open Go.RowKit Go.Proofs.Yteekllklhboaeaa.Oct
set_option linter.unusedVariables false

theorem two_arrays (w : World) : Arr ((w.alloc (.cells #[.int .u8 0, .int .u8 0, .int .u8 0, .int .u8 0, .int .u8 0, .int .u8 0, .int .u8 0, .int .u8 0, .int .u8 0, .int .u8 0, .int .u8 0, .int .u8 0, .int .u8 0, .int .u8 0, .int .u8 0, .int .u8 0] 58)).alloc (.cells #[.int .u8 0, .int .u8 0, .int .u8 0, .int .u8 0, .int .u8 0, .int .u8 0, .int .u8 0, .int .u8 0, .int .u8 0, .int .u8 0, .int .u8 0, .int .u8 0, .int .u8 0, .int .u8 0, .int .u8 0, .int .u8 0] 58)) w.heap.size (fun _ => 0) ∧ Arr ((w.alloc (.cells #[.int .u8 0, .int .u8 0, .int .u8 0, .int .u8 0, .int .u8 0, .int .u8 0, .int .u8 0, .int .u8 0, .int .u8 0, .int .u8 0, .int .u8 0, .int .u8 0, .int .u8 0, .int .u8 0, .int .u8 0, .int .u8 0] 58)).alloc (.cells #[.int .u8 0, .int .u8 0, .int .u8 0, .int .u8 0, .int .u8 0, .int .u8 0, .int .u8 0, .int .u8 0, .int .u8 0, .int .u8 0, .int .u8 0, .int .u8 0, .int .u8 0, .int .u8 0, .int .u8 0, .int .u8 0] 58)) (w.heap.size + 1) (fun _ => 0) ∧ Below w.heap.size w ((w.alloc (.cells #[.int .u8 0, .int .u8 0, .int .u8 0, .int .u8 0, .int .u8 0, .int .u8 0, .int .u8 0, .int .u8 0, .int .u8 0, .int .u8 0, .int .u8 0, .int .u8 0, .int .u8 0, .int .u8 0, .int .u8 0, .int .u8 0] 58)).alloc (.cells #[.int .u8 0, .int .u8 0, .int .u8 0, .int .u8 0, .int .u8 0, .int .u8 0, .int .u8 0, .int .u8 0, .int .u8 0, .int .u8 0, .int .u8 0, .int .u8 0, .int .u8 0, .int .u8 0, .int .u8 0, .int .u8 0] 58)) ∧ w.heap.size ≠ w.heap.size + 1 := by
  have h1 : Below w.heap.size w (w.alloc (.cells #[.int .u8 0, .int .u8 0, .int .u8 0, .int .u8 0, .int .u8 0, .int .u8 0, .int .u8 0, .int .u8 0, .int .u8 0, .int .u8 0, .int .u8 0, .int .u8 0, .int .u8 0, .int .u8 0, .int .u8 0, .int .u8 0] 58)) := (Below.refl w.heap.size w).alloc (Nat.le_refl _) _
  have q1 := heap_alloc_new w (.cells #[.int .u8 0, .int .u8 0, .int .u8 0, .int .u8 0, .int .u8 0, .int .u8 0, .int .u8 0, .int .u8 0, .int .u8 0, .int .u8 0, .int .u8 0, .int .u8 0, .int .u8 0, .int .u8 0, .int .u8 0, .int .u8 0] 58)
  have l1 : w.heap.size < (w.alloc (.cells #[.int .u8 0, .int .u8 0, .int .u8 0, .int .u8 0, .int .u8 0, .int .u8 0, .int .u8 0, .int .u8 0, .int .u8 0, .int .u8 0, .int .u8 0, .int .u8 0, .int .u8 0, .int .u8 0, .int .u8 0, .int .u8 0] 58)).heap.size := (Array.getElem?_eq_some_iff.1 q1).1
  have h2 : Below w.heap.size w ((w.alloc (.cells #[.int .u8 0, .int .u8 0, .int .u8 0, .int .u8 0, .int .u8 0, .int .u8 0, .int .u8 0, .int .u8 0, .int .u8 0, .int .u8 0, .int .u8 0, .int .u8 0, .int .u8 0, .int .u8 0, .int .u8 0, .int .u8 0] 58)).alloc (.cells #[.int .u8 0, .int .u8 0, .int .u8 0, .int .u8 0, .int .u8 0, .int .u8 0, .int .u8 0, .int .u8 0, .int .u8 0, .int .u8 0, .int .u8 0, .int .u8 0, .int .u8 0, .int .u8 0, .int .u8 0, .int .u8 0] 58)) := h1.alloc (by omega) _
  have q2 := heap_alloc_new (w.alloc (.cells #[.int .u8 0, .int .u8 0, .int .u8 0, .int .u8 0, .int .u8 0, .int .u8 0, .int .u8 0, .int .u8 0, .int .u8 0, .int .u8 0, .int .u8 0, .int .u8 0, .int .u8 0, .int .u8 0, .int .u8 0, .int .u8 0] 58)) (.cells #[.int .u8 0, .int .u8 0, .int .u8 0, .int .u8 0, .int .u8 0, .int .u8 0, .int .u8 0, .int .u8 0, .int .u8 0, .int .u8 0, .int .u8 0, .int .u8 0, .int .u8 0, .int .u8 0, .int .u8 0, .int .u8 0] 58)
  have h3 : Below (w.alloc (.cells #[.int .u8 0, .int .u8 0, .int .u8 0, .int .u8 0, .int .u8 0, .int .u8 0, .int .u8 0, .int .u8 0, .int .u8 0, .int .u8 0, .int .u8 0, .int .u8 0, .int .u8 0, .int .u8 0, .int .u8 0, .int .u8 0] 58)).heap.size (w.alloc (.cells #[.int .u8 0, .int .u8 0, .int .u8 0, .int .u8 0, .int .u8 0, .int .u8 0, .int .u8 0, .int .u8 0, .int .u8 0, .int .u8 0, .int .u8 0, .int .u8 0, .int .u8 0, .int .u8 0, .int .u8 0, .int .u8 0] 58)) ((w.alloc (.cells #[.int .u8 0, .int .u8 0, .int .u8 0, .int .u8 0, .int .u8 0, .int .u8 0, .int .u8 0, .int .u8 0, .int .u8 0, .int .u8 0, .int .u8 0, .int .u8 0, .int .u8 0, .int .u8 0, .int .u8 0, .int .u8 0] 58)).alloc (.cells #[.int .u8 0, .int .u8 0, .int .u8 0, .int .u8 0, .int .u8 0, .int .u8 0, .int .u8 0, .int .u8 0, .int .u8 0, .int .u8 0, .int .u8 0, .int .u8 0, .int .u8 0, .int .u8 0, .int .u8 0, .int .u8 0] 58)) := (Below.refl _ _).alloc (Nat.le_refl _) _
  have z : ∀ j, j < 16 → (List.replicate 16 (Value.int .u8 0)).toArray[j]? = some (.int .u8 (((0 : UInt8)).toNat : Int)) := fun j hj => by
    rw [List.getElem?_toArray, List.getElem?_replicate, if_pos hj]
    rfl
  have l2 : (w.alloc (.cells #[.int .u8 0, .int .u8 0, .int .u8 0, .int .u8 0, .int .u8 0, .int .u8 0, .int .u8 0, .int .u8 0, .int .u8 0, .int .u8 0, .int .u8 0, .int .u8 0, .int .u8 0, .int .u8 0, .int .u8 0, .int .u8 0] 58)).heap.size = w.heap.size + 1 := by show (w.heap.push _).size = _; exact Array.size_push _
  rw [l2] at q2
  exact ⟨⟨_, (h3.block _ l1).trans q1, rfl, z⟩, ⟨_, q2, rfl, z⟩, h2, by omega⟩

set_option maxRecDepth 100000 in
set_option maxHeartbeats 4000000 in
theorem last_walk (A : Option Addr) (len cap m : Nat) (ps : List (UInt8 × UInt8)) (c : UInt8) (w : World) (hp : PutsIn w A len cap ps) (hm : m = min len 30) :
    Calls Try.prog 5 #[.slice A len cap, .int .u8 (c.toNat : Int)] w (BoolPost w true) := by
  have hle := hp.le
  have hcap := hp.cap
  have HP := Lib.hid (hp.pairs.take m)
  have HL := Lib.hid (show (ps.take m).length = m by rw [List.length_take, hp.hlen]; omega)
  generalize ps.take m = l at *
  unfold maxLen at hcap
  have hml : m ≤ len := by omega
  have hm30 : m ≤ 30 := by omega
  have hmin : min (len : Int) 30 = (m : Int) := by omega
  have hc := u8_lt c
  obtain ⟨k, hkd⟩ : ∃ k, k = c.toNat % (m + 1) := ⟨_, rfl⟩
  have HKM := Lib.hid (show k ≤ m by have := Nat.mod_lt c.toNat (show 0 < m + 1 by omega); omega)
  have hmod : (c.toNat : Int) % ((m : Int) + 1) = (k : Int) := by rw [hkd, Int.natCast_emod]; rfl
  have hne0 : ¬ ((m : Int) + 1 = 0) := by omega
  have hnb : ((m : Int) + 1 == 0) = false := by simp; omega
  clear hp hm hkd
  go_enter Try.func5, Try.ntmps5
  go_wp2_with fail
  rw [hmod]
  clear hmod hne0 hnb
  refine (after_any A m cap l _ HP.out HL.out (by omega) k (by have := HKM.out; omega)).mono ?_
  rintro e w2 ⟨a, rfl, I2, B2⟩
  have HC := Lib.hid (afterTo_calm l k m)
  have HS := Lib.hid (show Stood (afterTo l k m) (l.drop k) (l.take k) by have := stood_all l k (by rw [HL.out]; exact HKM.out); rwa [HL.out] at this)
  generalize afterTo l k m = s at *
  have HI2 := Lib.hid I2
  have HP2 := Lib.hid (HP.out.older B2)
  have HB2 := Lib.hid B2
  clear I2 B2
  go_wp2_with fail
  refine (copy_is HI2.out).mono ?_
  rintro e w3 ⟨ca, rfl, I3, B3⟩
  have HA3 := Lib.hid I3.within
  have HB3 := Lib.hid B3
  clear I3 B3
  go_wp2_with fail
  refine (copy_is (HI2.out.below HB3.out)).mono ?_
  rintro e w4 ⟨cn, rfl, I4, B4⟩
  have HA4 := Lib.hid (HA3.out.below B4)
  have HN4 := Lib.hid I4
  have HB4 := Lib.hid (HB3.out.trans (B4.mono HB3.out.size))
  have hs2 : w2.heap.size ≤ w3.heap.size := HB3.out.size
  have hs3 : w3.heap.size ≤ w4.heap.size := B4.size
  generalize w3.heap.size = s3 at *
  clear I4 B4 HA3 HB3
  go_wp2_with fail
  go_loopw [9, 37] (fun v i wr => ∃ j : Nat, j ≤ m ∧ i = .int .i64 (j : Int) ∧ Hid (Trues wr w4.heap.size v j) ∧ Below w4.heap.size w4 wr) (fun _ i _ => m - (intOf i).toNat)
  case atStart => exact ⟨0, Nat.zero_le _, rfl, Lib.hid (Trues.nil _ _), Below.refl _ _⟩
  case round =>
    obtain ⟨j, hj, rfl, HT, hB⟩ := hrel
    have HB := Lib.hid hB
    clear hB
    by_cases hlt : j < m
    · have hji : (j : Int) < (m : Int) := by omega
      obtain ⟨v', w6, hrun, T6, B6⟩ := trues_put HT.out (by omega) HB.out.size 35
      have HT6 := Lib.hid T6
      have HB6 := Lib.hid (HB.out.trans B6)
      clear T6 B6
      go_wp2_with (at_builtin; refine wpList_append_run rfl (.tmp 39) (.tmp 40) 35 rfl _ _ rfl rfl _ w6 hrun ?_)
      go_roundw
      case rel => exact ⟨j + 1, by omega, by go_num, HT6, HB6.out⟩
      case measure => simp [intOf]; omega
    · obtain rfl : m = j := by omega
      obtain ⟨KA, kc, rfl, F5, D5⟩ := HT.out.flags
      have HA5 := Lib.hid (HA4.out.below HB.out)
      have HN5 := Lib.hid (HN4.out.below HB.out)
      have HB5 := Lib.hid (HB4.out.trans (HB.out.mono (Nat.le_trans hs2 hs3)))
      clear HT
      go_wp2_with fail
      refine (crash_fall HA5.out KA m kc (List.replicate m true) (by simp) (-1) 0 (by omega) (by omega) (by unfold maxLen; omega) F5 (D5 _)).mono ?_
      rintro e w5 ⟨rfl, A6, T6, K6⟩
      have HA6 := Lib.hid A6
      have HN6 := Lib.hid (Is.above (base := 0) HN5.out K6)
      have HB6 := Lib.hid (HB5.out.trans (T6.below HB5.out.size))
      have hs5 : s3 ≤ w5.heap.size := by have := HB.out.size; have := T6.size; omega
      clear A6 T6 K6 HA5 HN5 HB5 F5 D5 HB HN4 HA4 HB4
      go_wp2_with fail
      refine (crash_fall HN6.out.within none 0 0 [] rfl (m : Int) 0 (by omega) (by omega) (by unfold maxLen; omega) (.inl rfl) (fun x hx => by cases hx)).mono ?_
      rintro e w7 ⟨rfl, A7, T7, K7⟩
      have HN7 := Lib.hid A7.is
      have HA7 := Lib.hid (HA6.out.under (T7.below hs5)).is
      have HB7 := Lib.hid (HB6.out.trans ((T7.below hs5).mono hs2))
      have hWm : s.W.length ≤ m := by rw [HS.out.W, List.length_map, List.length_drop, HL.out]; omega
      have HWL := Lib.hid (show s.W.length = m - k by rw [HS.out.W, List.length_map, List.length_drop, HL.out])
      have HSD := Lib.hid (show ∀ q, q < 16 → s.says q = fill1 (lastB l q) from fun q hq => by rw [HS.out.says q hq, List.take_append_drop])
      have HSA := Lib.hid (show ∀ q, q < 16 → (s.crashed (List.replicate m true) (-1) (Int.toNat 0)).says q = fill1 (lastB l q) from fun q hq => (crash_all HS.out m hWm q hq).trans (HSD.out q hq))
      have HSN := Lib.hid (show ∀ q, q < 16 → (s.crashed [] (m : Int) (Int.toNat 0)).says q = fill1 (lastB (l.take k) q) from fun q hq => crash_none HS.out m hWm q hq)
      have HFA := Lib.hid (crashed_frame s (List.replicate m true) (-1) (Int.toNat 0))
      have HFN := Lib.hid (crashed_frame s [] (m : Int) (Int.toNat 0))
      generalize s.crashed (List.replicate m true) (-1) (Int.toNat 0) = sa at *
      generalize s.crashed [] (m : Int) (Int.toNat 0) = sn at *
      clear A7 T7 K7 HA6 HN6 HB6 hWm
      go_wp2_with fail
      obtain ⟨L8, F8, B8, hne8⟩ := two_arrays w7
      have HL8 := Lib.hid (L8.same (g := lastB (l.take 0)) fun j _ => rfl)
      have HF8 := Lib.hid (F8.same (g := lastB (l.take (min 0 k))) fun j _ => by rw [Nat.zero_min]; rfl)
      have HB8 := Lib.hid B8
      have HNE := Lib.hid hne8
      clear L8 F8 B8 hne8
      generalize (w7.alloc (.cells #[.int .u8 0, .int .u8 0, .int .u8 0, .int .u8 0, .int .u8 0, .int .u8 0, .int .u8 0, .int .u8 0, .int .u8 0, .int .u8 0, .int .u8 0, .int .u8 0, .int .u8 0, .int .u8 0, .int .u8 0, .int .u8 0] 58)).alloc (.cells #[.int .u8 0, .int .u8 0, .int .u8 0, .int .u8 0, .int .u8 0, .int .u8 0, .int .u8 0, .int .u8 0, .int .u8 0, .int .u8 0, .int .u8 0, .int .u8 0, .int .u8 0, .int .u8 0, .int .u8 0, .int .u8 0] 58) = w8 at *
      have hq7 : w2.heap.size ≤ w7.heap.size := HB7.out.size
      generalize hql : w7.heap.size = ql at *
      have HQL := Lib.hid hql
      clear hql
      go_loopw [58] (fun i wr => ∃ j : Nat, j ≤ m ∧ i = .int .i64 (j : Int) ∧ Hid (Arr wr ql (lastB (l.take j))) ∧ Hid (Arr wr (ql + 1) (lastB (l.take (min j k)))) ∧ Below ql w7 wr) (fun i _ => m - (intOf i).toNat)
      case atStart => exact ⟨0, Nat.zero_le _, rfl, HL8, HF8, HB8.out⟩
      case round =>
        obtain ⟨j, hj, rfl, HAL, HAF, hB⟩ := hrel
        have HB := Lib.hid hB
        have HPR := Lib.hid (HP2.out.older (HB7.out.trans (hB.mono hq7)))
        clear hB
        by_cases hlt : j < m
        · have hji : (j : Int) < (m : Int) := by omega
          have hjp : j < l.length := by rw [HL.out]; exact hlt
          obtain ⟨b, o, rfl, c1, c2, hb⟩ := HPR.out.at j hjp
          have HL1 := Lib.hid (fun q => lastB_take l j q hjp)
          generalize l[j] = p at c1 c2 HL1
          obtain ⟨c0, d0⟩ := p
          go_upto_region 18 with (fail)
          have b6 := (Below.refl wr.heap.size wr).alloc (Nat.le_refl _) (.cells #[.int .u8 (c0.toNat : Int), .int .u8 (d0.toNat : Int)] 53)
          have R6 := heap_alloc_new wr (.cells #[.int .u8 (c0.toNat : Int), .int .u8 (d0.toNat : Int)] 53)
          have HAL6 := Lib.hid (HAL.out.older b6)
          have HAF6 := Lib.hid (HAF.out.older b6)
          have HB6 := Lib.hid (HB.out.trans (b6.mono (by have := HAL.out.lt; omega)))
          generalize wr.alloc (.cells #[.int .u8 (c0.toNat : Int), .int .u8 (d0.toNat : Int)] 53) = w9 at *
          have hrq : ql ≠ wr.heap.size := by have := HAL.out.lt; omega
          have hrf : ql + 1 ≠ wr.heap.size := by have := HAF.out.lt; omega
          generalize wr.heap.size = r at *
          have e1 : w9.cell? ⟨r, 0, none⟩ = some (.int .u8 (c0.toNat : Int)) := cell_of_row _ _ 0 _ _ _ R6
          have e2 : w9.cell? ⟨r, 1, none⟩ = some (.int .u8 (d0.toNat : Int)) := cell_of_row _ _ 1 _ _ _ R6
          have h8 := u8_lt c0
          have hl1 := HAL6.out.cell (c0.toNat % 16) (lt16 c0)
          have hl2 := HAL6.out.free (c0.toNat % 16)
          have hf1 := HAF6.out.cell (c0.toNat % 16) (lt16 c0)
          have hf2 := HAF6.out.free (c0.toNat % 16)
          have HLP := Lib.hid ((HAL6.out.put (d := d0) (lt16 c0)).same (g := lastB (l.take (j + 1))) fun q _ => (HL1.out q).symm)
          have HFA6 := Lib.hid (HAF6.out.aside (q' := ql) (p := c0.toNat % 16) (v := .int .u8 (d0.toNat : Int)) (by omega))
          have HB7' := Lib.hid (HB6.out.setCell (p := ⟨ql, c0.toNat % 16, none⟩) (Nat.le_refl _) (.int .u8 (d0.toNat : Int)))
          clear c1 c2 b6 R6
          go_upto_region 19 with (fail)
          have g1 : (w9.setCell ⟨ql, c0.toNat % 16, none⟩ (.int .u8 (d0.toNat : Int))).cell? ⟨r, 0, none⟩ = some (.int .u8 (c0.toNat : Int)) := (World.cell?_setCell_other _ _ _ _ (fun e => hrq (congrArg Addr.block e))).trans e1
          have g2 : (w9.setCell ⟨ql, c0.toNat % 16, none⟩ (.int .u8 (d0.toNat : Int))).cell? ⟨r, 1, none⟩ = some (.int .u8 (d0.toNat : Int)) := (World.cell?_setCell_other _ _ _ _ (fun e => hrq (congrArg Addr.block e))).trans e2
          generalize w9.setCell ⟨ql, c0.toNat % 16, none⟩ (.int .u8 (d0.toNat : Int)) = w10 at *
          clear e1 e2 hl1 hl2 hf1 hf2
          have hf1 := HFA6.out.cell (c0.toNat % 16) (lt16 c0)
          have hf2 := HFA6.out.free (c0.toNat % 16)
          by_cases hjk : j < k
          · have hjki : (j : Int) < (k : Int) := by omega
            have HFP := Lib.hid ((HFA6.out.put (d := d0) (lt16 c0)).same (g := lastB (l.take (min (j + 1) k))) fun q _ => by rw [show min j k = j by omega, show min (j + 1) k = j + 1 by omega]; exact (HL1.out q).symm)
            have HLP2 := Lib.hid (HLP.out.aside (q' := ql + 1) (p := c0.toNat % 16) (v := .int .u8 (d0.toNat : Int)) (by omega))
            have HB11 := Lib.hid (HB7'.out.setCell (p := ⟨ql + 1, c0.toNat % 16, none⟩) (by show ql ≤ ql + 1; omega) (.int .u8 (d0.toNat : Int)))
            go_wp2_with fail
            go_roundw
            case rel => exact ⟨j + 1, by omega, by go_num, HLP2, HFP, HB11.out⟩
            case measure => simp [intOf]; omega
          · have hjki : ¬ (j : Int) < (k : Int) := by omega
            have HFP := Lib.hid (HFA6.out.same (g := lastB (l.take (min (j + 1) k))) fun q _ => by rw [show min j k = k by omega, show min (j + 1) k = k by omega])
            go_wp2_with fail
            go_roundw
            case rel => exact ⟨j + 1, by omega, by go_num, HLP, HFP, HB7'.out⟩
            case measure => simp [intOf]; omega
        · obtain rfl : m = j := by omega
          obtain ⟨wm, hwm⟩ : ∃ x, x = wr := ⟨_, rfl⟩
          subst hwm
          have HLL := Lib.hid (HAL.out.same (g := lastB l) fun q _ => by rw [List.take_of_length_le (by rw [HL.out]; omega)])
          have HFF := Lib.hid (HAF.out.same (g := lastB (l.take k)) fun q _ => by rw [show min m k = k by have := HKM.out; omega])
          have HB9 := Lib.hid (HB7.out.trans (HB.out.mono hq7))
          have HI9 := Lib.hid (HI2.out.below HB9.out)
          have HA9 := Lib.hid (HA7.out.below (by rw [HQL.out]; exact HB.out))
          have HN9 := Lib.hid (HN7.out.below (by rw [HQL.out]; exact HB.out))
          go_wp2_with fail
          go_loopw [79] (fun i wq => ∃ j : Nat, j ≤ 16 ∧ i = .int .i64 (j : Int) ∧ Below wm.heap.size wm wq) (fun i _ => 16 - (intOf i).toNat)
          case atStart => exact ⟨0, Nat.zero_le _, rfl, Below.refl _ _⟩
          case round =>
            obtain ⟨j, hj, rfl, hB⟩ := hrel
            have HB10 := Lib.hid hB
            have HI10 := Lib.hid (HI9.out.below hB).drew
            have HA10 := Lib.hid (HA9.out.below hB).drew
            have HN10 := Lib.hid (HN9.out.below hB).drew
            have HL10 := Lib.hid (HLL.out.older hB).drew
            have HF10 := Lib.hid (HFF.out.older hB).drew
            have HI11 := Lib.hid (HI9.out.below hB)
            clear hB
            by_cases hlt2 : j < 16
            · have hji : (j : Int) < 16 := by omega
              have hjs : j < s.n := by rw [HC.out.n]; exact hlt2
              have hja : j < sa.n := by rw [HFA.out.2.1]; exact hjs
              have hjn : j < sn.n := by rw [HFN.out.2.1]; exact hjs
              have c1 : wr.drew.cell? ⟨ql, j, none⟩ = _ := HL10.out.cell j hlt2
              have c2 : wr.drew.cell? ⟨ql + 1, j, none⟩ = _ := HF10.out.cell j hlt2
              go_wp2_with fail
              clear HP HP2 HB2 HL HKM HS HLL HFF HB9 HI9 HA9 HN9 HWL hmin hcap hle hml HI11 HI2 HN7 HA7 HB7 HAL HAF HB HL10 HF10
              go_region_held3 (fun w' => w'.cell? ⟨ql, j, none⟩ = some (.int .u8 ((lastB l j).toNat : Int)) ∧ w'.cell? ⟨ql + 1, j, none⟩ = some (.int .u8 ((lastB (l.take k) j).toNat : Int))) (first | with_reducible exact K3 | with_reducible exact K2 | with_reducible exact K1 | with_reducible exact And.intro c1 c2 | exact And.intro (keep_alloc K2.1) (keep_alloc K2.2) | exact And.intro (keep_alloc K1.1) (keep_alloc K1.2) | exact And.intro (keep_alloc c1) (keep_alloc c2) | fail) (first | (go_at_call 23; refine (says_two (HN10.out.below HB12.out) HFN.out.1 j hjn (lastB (l.take k) j) (HSN.out j hlt2)).mono ?_; rintro e w13 ⟨rfl, B13⟩; have K3 := And.intro ((B13.cell (World.block_lt_of_cell? _ _ K2.1)).trans K2.1) ((B13.cell (World.block_lt_of_cell? _ _ K2.2)).trans K2.2); have HB13 := Lib.hid (HB10.out.drew.trans ((HB12.out.trans (B13.mono HB12.out.size)).mono HB10.out.size)); clear B13) | (go_at_call 23; refine (says_two (HA10.out.below HB11.out) HFA.out.1 j hja (lastB l j) (HSA.out j hlt2)).mono ?_; rintro e w12 ⟨rfl, B12⟩; have K2 := And.intro ((B12.cell (World.block_lt_of_cell? _ _ K1.1)).trans K1.1) ((B12.cell (World.block_lt_of_cell? _ _ K1.2)).trans K1.2); have HB12 := Lib.hid (HB11.out.trans (B12.mono HB11.out.size)); clear B12) | (go_at_call 23; refine (says_two HI10.out HC.out.gone j hjs (lastB l j) (HSD.out j hlt2)).mono ?_; rintro e w11 ⟨rfl, B11⟩; have K1 := And.intro ((B11.cell (World.block_lt_of_cell? _ _ c1)).trans c1) ((B11.cell (World.block_lt_of_cell? _ _ c2)).trans c2); have HB11 := Lib.hid B11; clear B11))
              clear c1 c2
              go_wp2_with fail
              go_roundw
              case rel => exact ⟨j + 1, by omega, by go_num, HB13.out⟩
              case measure => simp [intOf]; omega
            · obtain rfl : j = 16 := by omega
              go_wp2_with fail
              refine (cached_is HI11.out).mono ?_
              rintro e w10 ⟨g, rfl, hg, R10, b10⟩
              have HB11 := Lib.hid (HB2.out.trans ((HB9.out.trans (HB10.out.mono HB9.out.size)).mono HB2.out.size))
              have HB12 := Lib.hid (HB11.out.trans (b10.mono HB11.out.size))
              have hkm := HKM.out
              have hW := HWL.out
              have hWi : (s.W.length : Int) = (m : Int) - (k : Int) := by omega
              clear R10 b10 hg
              go_wp2_with fail
              refine (awake_any _).mono ?_
              rintro e w12 ⟨rfl, b12⟩
              have HB13 := Lib.hid (HB12.out.trans (b12.mono HB12.out.size))
              clear b12
              go_wp2_with fail
              go_ret
              exact ⟨rfl, HB13.out⟩
theorem last_said (A : Option Addr) (len cap : Nat) (ps : List (UInt8 × UInt8)) (z : Int) (w : World) (w0 : PutsIn w A len cap ps) (w1 : (Lit.int .u8 z).wf = true) :
    Calls Try.prog 5 #[.slice A len cap, .int .u8 z] w (BoolPost w true) := by
  obtain ⟨c, rfl⟩ := u8_of w1
  exact last_walk A len cap _ ps c w w0 rfl
end Go.Proofs.Yteekllklhboaeaa.Dsk
