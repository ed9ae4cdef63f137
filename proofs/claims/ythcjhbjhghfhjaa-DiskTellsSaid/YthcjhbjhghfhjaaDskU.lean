/- The walk of the statement DiskCopy: whatever the writes, it answers true and writes nothing that was there. -/
import Derived.Test.YthcjhbjhghfhjaaDskS
import Derived.Lib.MinMax
namespace Go.Proofs.Ythcjhbjhghfhjaa.Dsk
open Go.RowKit Go.Proofs.Ythcjhbjhghfhjaa.Oct
set_option linter.unusedVariables false

theorem Calm.flushed0 {s : St} {k : Nat} (h : Calm s k) : Calm s.flushed 0 := ⟨h.flushed.gone, h.flushed.armed, h.flushed.n, Nat.le_refl _⟩
theorem irow_turned {w w' : World} {base g : Nat} {zs : List Int} (h : IRow w g zs) (t : Turned dT base w w') : IRow w' g zs :=
  (t.block g (IRow.lt h) (.inr fun cs ty fr hc => by rw [h] at hc; cases hc; rfl)).trans h
theorem irow_older {w w' : World} {g : Nat} {zs : List Int} (h : IRow w g zs) (b : Below w.heap.size w w') : IRow w' g zs := (b.block g (IRow.lt h)).trans h
/-- The first k places' bytes are kept in block q. -/
structure Kept (w : World) (q k : Nat) (s : St) : Prop where
  is : ∃ arr : Array Value, w.heap[q]? = some (.cells arr 66 (0, 0)) ∧ arr.size = 16 ∧ ∀ j, j < k → ∃ g, arr[j]? = some (.slice (some ⟨g, 0, none⟩) 128 128) ∧ Row w g (s.says j)
theorem Kept.lt {w : World} {q k : Nat} {s : St} (h : Kept w q k s) : q < w.heap.size := by obtain ⟨arr, h1, _⟩ := h.is; exact (Array.getElem?_eq_some_iff.1 h1).1
theorem Kept.older {w w' : World} {q k : Nat} {s : St} (h : Kept w q k s) (b : Below w.heap.size w w') : Kept w' q k s := by
  obtain ⟨arr, h1, h2, h3⟩ := h.is
  exact ⟨arr, (b.block q h.lt).trans h1, h2, fun j hj => by obtain ⟨g, e, r⟩ := h3 j hj; exact ⟨g, e, row_older r b⟩⟩
theorem Kept.turned {w w' : World} {base q k : Nat} {s : St} (h : Kept w q k s) (t : Turned dT base w w') : Kept w' q k s := by
  obtain ⟨arr, h1, h2, h3⟩ := h.is
  exact ⟨arr, (t.block q h.lt (.inr fun cs ty fr hc => by rw [h1] at hc; cases hc; rfl)).trans h1, h2, fun j hj => by obtain ⟨g, e, r⟩ := h3 j hj; exact ⟨g, e, row_turned r t⟩⟩
theorem Kept.put {w : World} {q k g : Nat} {s : St} (h : Kept w q k s) (hk : k < 16) (hr : Row w g (s.says k)) : Kept (w.setCell ⟨q, k, none⟩ (.slice (some ⟨g, 0, none⟩) 128 128)) q (k + 1) s := by
  obtain ⟨arr, h1, h2, h3⟩ := h.is
  have far : ∀ {g' : Nat} {bs : List UInt8}, Row w g' bs → Row (w.setCell ⟨q, k, none⟩ (.slice (some ⟨g, 0, none⟩) 128 128)) g' bs := fun {g'} {bs} hr' => by
    refine Oct.Row.other hr' fun e => ?_
    subst e
    unfold Row at hr'
    rw [h1] at hr'
    cases hr'
  refine ⟨_, heap_setCell_same w q k _ _ _ h1, by simpa using h2, fun j hj => ?_⟩
  by_cases hjk : j = k
  · subst hjk
    exact ⟨g, by simp [h2, hk], far hr⟩
  · obtain ⟨g', e, r⟩ := h3 j (by omega)
    exact ⟨g', by rw [Array.getElem?_setIfInBounds_ne (by omega)]; exact e, far r⟩

theorem is_set {w : World} {base a q k : Nat} {s : St} {cs : Array Value} {t : TypeId} {fr : Nat × Nat} (h : Is w base a s) (hq : w.heap[q]? = some (.cells cs t fr)) (ht : dT t = false) (v : Value) : Is (w.setCell ⟨q, k, none⟩ v) base a s := by
  obtain ⟨_, _, _, h⟩ := h
  exact ⟨_, _, _, h.same fun k' cs' t' fr' _ _ hc hd => heap_setCell_other _ _ _ _ (by rintro rfl; rw [hq] at hc; cases hc; rw [ht] at hd; cases hd)⟩
theorem drop_done {α : Type} {a b : α} (h : a = b) : b = a := h.symm

set_option maxRecDepth 100000 in
set_option maxHeartbeats 4000000 in
theorem copy_walk (A : Option Addr) (len cap m : Nat) (ps : List (UInt8 × UInt8)) (A2 : Option Addr) (len2 cap2 m2 : Nat) (ps2 : List (UInt8 × UInt8)) (w : World) (hp : PutsIn w A len cap ps) (hm : m = min len 20) (hp2 : PutsIn w A2 len2 cap2 ps2) (hm2 : m2 = min len2 20) :
    Calls Try.prog 7 #[.slice A len cap, .slice A2 len2 cap2] w (BoolPost w true) := by
  have hle := hp.le
  have hcap := hp.cap
  have hle2 := hp2.le
  have hcap2 := hp2.cap
  have HP := Lib.hid (hp.pairs.take m)
  have HL := Lib.hid (show (ps.take m).length = m by rw [List.length_take, hp.hlen]; omega)
  have HP2 := Lib.hid (hp2.pairs.take m2)
  have HL2 := Lib.hid (show (ps2.take m2).length = m2 by rw [List.length_take, hp2.hlen]; omega)
  unfold maxLen at hcap hcap2
  have hml : m ≤ len := by omega
  have hm30 : m ≤ 20 := by omega
  have hml2 : m2 ≤ len2 := by omega
  have hm302 : m2 ≤ 20 := by omega
  have hmin : min (len : Int) 20 = (m : Int) := by omega
  have hmin2 : min (len2 : Int) 20 = (m2 : Int) := by omega
  have HD := Lib.hid (show (m : Int) / 2 = ((m / 2 : Nat) : Int) by omega)
  clear hp hm hp2 hm2
  go_enter Try.func7, Try.ntmps7
  go_wp2_with fail
  go_quiet (fail)
  go_wp2_with fail
  rw [HD.out]
  have HPQ := Lib.hid (show Pairs (w.drewN nq) A (ps.take m) from HP.out)
  have HP2Q := Lib.hid (show Pairs (w.drewN nq) A2 (ps2.take m2) from HP2.out)
  have HB0 := Lib.hid ((Still.drewN w nq).below w.heap.size)
  generalize w.drewN nq = w1 at *
  refine (after_any A m cap (ps.take m) _ HPQ.out HL.out (by omega) (m / 2) (by omega)).mono ?_
  rintro e w2 ⟨a, rfl, I2, B2⟩
  have hlt2 := I2.lt
  have HC := Lib.hid (afterTo_calm (ps.take m) (m / 2) m)
  generalize afterTo (ps.take m) (m / 2) m = s at *
  have HI2 := Lib.hid I2
  have HP22 := Lib.hid (HP2Q.out.older B2)
  have HB2 := Lib.hid (HB0.out.trans (B2.mono HB0.out.size))
  generalize w1.heap.size = base at *
  clear I2 B2 hlt2
  go_wp2_with fail
  refine (copy_is HI2.out).mono ?_
  rintro e w3 ⟨c, rfl, I3, B3⟩
  have HI3 := Lib.hid I3
  have HB3 := Lib.hid B3
  clear I3 B3
  have hz : ∀ j : Nat, j < 0 → ∃ g, (Array.replicate 16 (Value.slice none 0 0))[j]? = some (.slice (some ⟨g, 0, none⟩) 128 128) ∧ Row w3 g (s.says j) := fun j hj => by omega
  go_wp2_with fail
  have b4 := (Below.refl w3.heap.size w3).alloc (Nat.le_refl _) (.cells #[.slice none 0 0, .slice none 0 0, .slice none 0 0, .slice none 0 0, .slice none 0 0, .slice none 0 0, .slice none 0 0, .slice none 0 0, .slice none 0 0, .slice none 0 0, .slice none 0 0, .slice none 0 0, .slice none 0 0, .slice none 0 0, .slice none 0 0, .slice none 0 0] 66)
  have K4 : Kept (w3.alloc (.cells #[.slice none 0 0, .slice none 0 0, .slice none 0 0, .slice none 0 0, .slice none 0 0, .slice none 0 0, .slice none 0 0, .slice none 0 0, .slice none 0 0, .slice none 0 0, .slice none 0 0, .slice none 0 0, .slice none 0 0, .slice none 0 0, .slice none 0 0, .slice none 0 0] 66)) w3.heap.size 0 s := ⟨⟨_, heap_alloc_new w3 _, rfl, fun j hj => by omega⟩⟩
  have HI4 := Lib.hid (HI3.out.below b4)
  have HB4 := Lib.hid (HB3.out.trans (b4.mono HB3.out.size))
  have HK4 := Lib.hid K4
  clear b4 K4 hz
  generalize w3.alloc (.cells #[.slice none 0 0, .slice none 0 0, .slice none 0 0, .slice none 0 0, .slice none 0 0, .slice none 0 0, .slice none 0 0, .slice none 0 0, .slice none 0 0, .slice none 0 0, .slice none 0 0, .slice none 0 0, .slice none 0 0, .slice none 0 0, .slice none 0 0, .slice none 0 0] 66) = w4 at *
  have hq2 : w2.heap.size ≤ w3.heap.size := HB3.out.size
  generalize w3.heap.size = q at *
  clear HI3 HB3
  go_loopw [38] (fun i wr => ∃ k : Nat, k ≤ 16 ∧ i = .int .i64 (k : Int) ∧ Hid (Kept wr q k s) ∧ Hid (Is wr w2.heap.size c s) ∧ Below w2.heap.size w2 wr) (fun i _ => 16 - (intOf i).toNat)
  case atStart => exact ⟨0, Nat.zero_le _, rfl, HK4, HI4, HB4.out⟩
  case round =>
    obtain ⟨k, hk, rfl, HK, HIC, hB⟩ := hrel
    have HB := Lib.hid hB
    have HIA := Lib.hid (HI2.out.below hB)
    clear hB
    by_cases hlt : k < 16
    · have hki : (k : Int) < 16 := by omega
      have hks : k < s.n := by rw [HC.out.n]; exact hlt
      go_wp2_with fail
      refine (read_yes HIA.out HC.out.gone k hks).mono ?_
      rintro e w5 ⟨g, rfl, hg, R5, b5⟩
      have HR5 := Lib.hid R5
      have HIC5 := Lib.hid (HIC.out.below b5)
      have HK5 := Lib.hid (HK.out.older b5)
      have HB5 := Lib.hid (HB.out.trans (b5.mono HB.out.size))
      clear R5 b5 hg
      go_wp2_with fail
      refine (read_yes HIC5.out HC.out.gone k hks).mono ?_
      rintro e w6 ⟨g', rfl, hg', R6, b6⟩
      have HR6 := Lib.hid R6
      have HR56 := Lib.hid (row_older HR5.out b6)
      have HIC6 := Lib.hid (HIC5.out.below b6)
      have HK6 := Lib.hid (HK5.out.older b6)
      have HB6 := Lib.hid (HB5.out.trans (b6.mono HB5.out.size))
      have HSL := Lib.hid (HIA.out.says_len k hks)
      clear R6 b6 hg'
      go_wp2_with fail
      refine (equal_yes _ _ 128 128 128 128 (s.says k) (s.says k) rfl HSL.out HSL.out _ HR56.out.has.told HR6.out.has.told).mono ?_
      rintro e w' ⟨rfl, rfl⟩
      have HK7 := Lib.hid (HK6.out.put hlt HR56.out)
      have HQ7 := Lib.hid HK6.out.lt
      obtain ⟨arr, ha1, ha2, _⟩ := HK6.out.is
      have hck := cell_of_row w6 q k _ _ _ ha1
      rw [Array.getElem?_eq_getElem (by omega)] at hck
      generalize arr[k]'(by omega) = old at hck
      have hfk : w6.frozen? ⟨q, k, none⟩ = false := frozen_of_row w6 q k _ _ ha1
      have HIC7 := Lib.hid (is_set (k := k) HIC6.out ha1 rfl (.slice (some ⟨g, 0, none⟩) 128 128))
      have HB7 := Lib.hid (HB6.out.setCell (p := ⟨q, k, none⟩) hq2 (.slice (some ⟨g, 0, none⟩) 128 128))
      clear ha1 ha2
      go_wp2_with fail
      go_roundw
      case rel => exact ⟨k + 1, by omega, by go_num, HK7, HIC7, HB7.out⟩
      case measure => simp [intOf]; omega
    · obtain rfl : k = 16 := by omega
      go_wp2_with fail
      refine (cached_is HIA.out).mono ?_
      rintro e w5 ⟨gw, rfl, hgw, RW, b5⟩
      have HW := Lib.hid RW
      have HIC5 := Lib.hid (HIC.out.below b5)
      have HK5 := Lib.hid (HK.out.older b5)
      have HB5 := Lib.hid (HB.out.trans (b5.mono HB.out.size))
      clear RW b5 hgw
      go_wp2_with fail
      go_loopw [73] (fun i wr => ∃ k : Nat, k ≤ m2 ∧ i = .int .i64 (k : Int) ∧ Hid (Kept wr q 16 s ∧ IRow wr gw s.places) ∧ Hid (∃ sc, Calm sc 20 ∧ Is wr w2.heap.size c sc) ∧ Below w2.heap.size w2 wr) (fun i _ => m2 - (intOf i).toNat)
      case atStart => exact ⟨0, Nat.zero_le _, rfl, Lib.hid ⟨HK5.out, HW.out⟩, Lib.hid ⟨s, ⟨HC.out.gone, HC.out.armed, HC.out.n, by have := HC.out.few; omega⟩, HIC5.out⟩, HB5.out⟩
      case round =>
        obtain ⟨k, hk, rfl, HKW, HIC, hB⟩ := hrel
        obtain ⟨sc, hc, hic⟩ := HIC.out
        have HB := Lib.hid hB
        have HPR := Lib.hid (HP22.out.older hB)
        have HCC := Lib.hid hc
        have HI := Lib.hid hic
        clear hB hc hic HIC
        by_cases hlt : k < m2
        · have hki : (k : Int) < (m2 : Int) := by omega
          have hkp : k < (ps2.take m2).length := by rw [HL2.out]; exact hlt
          obtain ⟨b, o, rfl, c1, c2, hb⟩ := HPR.out.at k hkp
          generalize (ps2.take m2)[k] = p at c1 c2
          obtain ⟨c0, d0⟩ := p
          go_wp2_with fail
          have b6 := (Below.refl wr.heap.size wr).alloc (Nat.le_refl _) (.cells #[.int .u8 (c0.toNat : Int), .int .u8 (d0.toNat : Int)] 53)
          have R6 := heap_alloc_new wr (.cells #[.int .u8 (c0.toNat : Int), .int .u8 (d0.toNat : Int)] 53)
          have HI6 := Lib.hid (HI.out.below b6).drew
          have HB6 := Lib.hid (HB.out.trans (b6.mono HB.out.size)).drew
          have k6 : Kept (wr.alloc (.cells #[.int .u8 (c0.toNat : Int), .int .u8 (d0.toNat : Int)] 53)).drew q 16 s := HKW.out.1.older b6.drew
          have w6' : IRow (wr.alloc (.cells #[.int .u8 (c0.toNat : Int), .int .u8 (d0.toNat : Int)] 53)).drew gw s.places := irow_older HKW.out.2 b6.drew
          have HK6 := Lib.hid k6
          have HW6 := Lib.hid w6'
          clear k6 w6'
          generalize wr.alloc (.cells #[.int .u8 (c0.toNat : Int), .int .u8 (d0.toNat : Int)] 53) = w6 at *
          obtain ⟨r, hr⟩ : ∃ r, r = wr.heap.size := ⟨_, rfl⟩
          rw [← hr] at R6 ⊢
          have HRX := Lib.hid (show w6.drew.heap[r]? = _ from R6)
          have hrl : r < w6.heap.size := (Array.getElem?_eq_some_iff.1 R6).1
          clear hr b6 c1 c2
          have c1 : w6.cell? ⟨r, 0, none⟩ = some (.int .u8 (c0.toNat : Int)) := cell_of_row _ _ 0 _ _ _ R6
          have c2 : w6.cell? ⟨r, 1, none⟩ = some (.int .u8 (d0.toNat : Int)) := cell_of_row _ _ 1 _ _ _ R6
          have hfew : sc.W.length < 1000000 := by have := HCC.out.few; omega
          clear R6
          go_region_held3 (fun w' => w'.cell? ⟨r, 0, none⟩ = some (.int .u8 (c0.toNat : Int)) ∧ w'.cell? ⟨r, 1, none⟩ = some (.int .u8 (d0.toNat : Int))) (first | exact ⟨c1, c2⟩ | exact K3 | exact K4) (first | (go_at_call 26; refine (filled_any _ d0 rfl _).mono ?_; rintro e w7 ⟨g, rfl, hg, R3, B3⟩; have K3 := And.intro ((B3.cell (p := ⟨r, 0, none⟩) hrl).trans c1) ((B3.cell (p := ⟨r, 1, none⟩) hrl).trans c2); have HR3 := Lib.hid R3; have HB3 := Lib.hid B3; clear R3 B3) | (go_at_call 25; refine (write_is (HI6.out.below HB3.out) hfew _ _ 128 128 (fill1 d0) (length_fill1 d0) (fun w' t => (row_turned HR3.out t).has.told)).mono ?_; rintro e w8 ⟨rfl, I4, T4⟩; have Q4 := keep_put ((HB3.out.block r hrl).trans HRX.out) T4; have K4 := And.intro (cell_of_row _ _ 0 _ _ _ Q4) (cell_of_row _ _ 1 _ _ _ Q4); have HI8 := Lib.hid I4; have HT8 := Lib.hid T4; clear I4 T4 Q4))
          have i8 := HI8.out
          rw [mod16t, HCC.out.put c0 d0] at i8
          have HJ8 := Lib.hid i8
          have HK8 := Lib.hid ((HK6.out.older HB3.out).turned HT8.out)
          have HW8 := Lib.hid (irow_turned (irow_older HW6.out HB3.out) HT8.out)
          have HB8 := Lib.hid (HB6.out.trans ((HB3.out.mono HB6.out.size).trans (HT8.out.below (Nat.le_trans HB6.out.size HB3.out.size))))
          clear i8 c1 c2
          go_wp2_with fail
          refine (flush_is HJ8.out).mono ?_
          rintro e w9 ⟨rfl, I9, T9⟩
          rw [(HCC.out.wrote (c0.toNat % 16) (fill1 d0)).flush] at I9 ⊢
          have HI9 := Lib.hid I9
          have HK9 := Lib.hid (HK8.out.turned T9)
          have HW9 := Lib.hid (irow_turned HW8.out T9)
          have HB9 := Lib.hid (HB8.out.trans (T9.below HB8.out.size))
          have HC9 := Lib.hid (HCC.out.wrote (c0.toNat % 16) (fill1 d0)).flushed0
          clear I9 T9
          go_wp2_with fail
          go_roundw
          case rel => exact ⟨k + 1, by omega, by go_num, Lib.hid ⟨HK9.out, HW9.out⟩, Lib.hid ⟨_, ⟨HC9.out.gone, HC9.out.armed, HC9.out.n, by have := HC9.out.few; omega⟩, HI9.out⟩, HB9.out⟩
          case measure => simp [intOf]; omega
        · obtain rfl : m2 = k := by omega
          go_wp2_with fail
          go_loopw [89] (fun i wr => ∃ j : Nat, j ≤ 16 ∧ i = .int .i64 (j : Int) ∧ Hid (Kept wr q 16 s ∧ IRow wr gw s.places) ∧ Hid (Is wr w2.heap.size c sc) ∧ Below w2.heap.size w2 wr) (fun i _ => 16 - (intOf i).toNat)
          case atStart => exact ⟨0, Nat.zero_le _, rfl, HKW, HI, HB.out⟩
          case round =>
            obtain ⟨j, hj, rfl, HKW2, HI2c, hB2⟩ := hrel
            have HB10 := Lib.hid hB2
            have HIA2 := Lib.hid (HI2.out.below hB2)
            clear hB2
            by_cases hlt2 : j < 16
            · have hji : (j : Int) < 16 := by omega
              have hjs : j < s.n := by rw [HC.out.n]; exact hlt2
              go_wp2_with fail
              refine (read_yes HIA2.out HC.out.gone j hjs).mono ?_
              rintro e w10 ⟨g, rfl, hg, R10, b10⟩
              obtain ⟨arr, ha1, ha2, ha3⟩ := (HKW2.out.1.older b10).is
              obtain ⟨g', ha4, R10'⟩ := ha3 j hlt2
              have hck := (cell_of_row w10 q j _ _ _ ha1).trans ha4
              have HR10 := Lib.hid R10
              have HR10' := Lib.hid R10'
              have HKW3 := Lib.hid (And.intro (HKW2.out.1.older b10) (irow_older HKW2.out.2 b10))
              have HI10 := Lib.hid (HI2c.out.below b10)
              have HB11 := Lib.hid (HB10.out.trans (b10.mono HB10.out.size))
              have HSL := Lib.hid (HIA2.out.says_len j hjs)
              clear R10 b10 hg ha1 ha2 ha3 ha4 R10'
              go_wp2_with fail
              refine (equal_yes _ _ 128 128 128 128 (s.says j) (s.says j) rfl HSL.out HSL.out _ HR10.out.has.told HR10'.out.has.told).mono ?_
              rintro e w' ⟨rfl, rfl⟩
              go_wp2_with fail
              go_roundw
              case rel => exact ⟨j + 1, by omega, by go_num, HKW3, HI10, HB11.out⟩
              case measure => simp [intOf]; omega
            · obtain rfl : j = 16 := by omega
              go_wp2_with fail
              refine (cached_is HIA2.out).mono ?_
              rintro e w10 ⟨g, rfl, hg, R10, b10⟩
              have HR10 := Lib.hid R10
              have HW10 := Lib.hid (irow_older HKW2.out.2 b10)
              have HI10 := Lib.hid (HI2c.out.below b10)
              have HB11 := Lib.hid (HB10.out.trans (b10.mono HB10.out.size))
              have HPL := Lib.hid (show s.places.length = s.W.length by simp [St.places])
              have hfew := HC.out.few
              clear R10 b10 hg
              go_wp2_with fail
              refine (eqplaces_any _ _ s.W.length s.W.length s.W.length s.W.length s.places s.places HPL.out HPL.out _ HR10.out.ints HW10.out.ints (by omega)).mono ?_
              rintro e w11 ⟨rfl, S11⟩
              rw [decide_eq_true rfl]
              have HI11 := Lib.hid (HI10.out.below (S11.below _))
              have HB12 := Lib.hid (HB11.out.trans (S11.below _))
              clear S11
              go_wp2_with fail
              refine (len_is HI11.out).mono ?_
              rintro e w' ⟨rfl, rfl⟩
              rw [HCC.out.n]
              go_wp2_with fail
              refine (awake_any _).mono ?_
              rintro e w12 ⟨rfl, b12⟩
              have HB13 := Lib.hid (HB2.out.trans ((HB12.out.mono HB2.out.size).trans (b12.mono (Nat.le_trans HB2.out.size HB12.out.size))))
              clear b12
              go_wp2_with fail
              go_ret
              exact ⟨rfl, HB13.out⟩
theorem copy_said (A : Option Addr) (len cap : Nat) (ps : List (UInt8 × UInt8)) (A2 : Option Addr) (len2 cap2 : Nat) (ps2 : List (UInt8 × UInt8)) (w : World) (w0 : PutsIn w A len cap ps) (w1 : PutsIn w A2 len2 cap2 ps2) :
    Calls Try.prog 7 #[.slice A len cap, .slice A2 len2 cap2] w (BoolPost w true) :=
  copy_walk A len cap _ ps A2 len2 cap2 _ ps2 w w0 rfl w1 rfl
end Go.Proofs.Ythcjhbjhghfhjaa.Dsk
