/- The walk of ShelfOwn. -/
import Derived.Test.YtamibckpkhpmfaaSfN
namespace Go.Proofs.Ytamibckpkhpmfaa.Sf
open Go.RowKit Go.Proofs.Ytamibckpkhpmfaa.Oct
set_option linter.unusedVariables false

theorem Box.but {w w' : World} {g p n c : Nat} {d : UInt8} {nx : UInt32} {A : Option Addr} (h : Box w g d nx A n c) (k : But w w' p) (hp : g ≠ p) : Box w' g d nx A n c :=
  ⟨(World.cell?_of_block (a := ⟨g, 0, none⟩) (k.block g hp)).trans h.c0, (World.cell?_of_block (a := ⟨g, 1, none⟩) (k.block g hp)).trans h.c1, (World.cell?_of_block (a := ⟨g, 2, none⟩) (k.block g hp)).trans h.c2, by rw [k.size]; exact h.lt⟩
theorem RowV.sh {w : World} {g n : Nat} {T : TypeId} {es : List Ent} (h : RowV w g T (evals es)) (hl : es.length = n) (h9 : n ≤ 1000) : Sh w (some ⟨g, 0, none⟩) n n es := ⟨hl, Nat.le_refl _, by unfold maxLen; omega, h.has.told⟩
def e99 : Ent := (9, 9)

set_option maxRecDepth 100000 in
set_option maxHeartbeats 1000000 in
theorem own_walk (d : UInt8) (nx : UInt32) (A : Option Addr) (n c : Nat) (es : List Ent) (w : World) (h : Sh w A n c es) :
    Calls Try.prog 7 #[.agg #[.int .u8 (d.toNat : Int), .int .u32 (nx.toNat : Int), .slice A n c]] w fun e w' => e = .returned (.bool true) ∧ Below w.heap.size w w' := by
  have HD0 := Lib.hid h
  have hcm := h.km
  have hnc := h.kc
  have HD := Lib.hid (h.boxed (.cells #[.int .u8 (d.toNat : Int), .int .u32 (nx.toNat : Int), .slice A n c] 25))
  have BB := Lib.hid ((Below.refl w.heap.size w).alloc (Nat.le_refl _) (.cells #[.int .u8 (d.toNat : Int), .int .u32 (nx.toNat : Int), .slice A n c] 25))
  have BX := Lib.hid (box_new (T := 25) w d nx A n c)
  unfold maxLen at hcm
  clear h
  by_cases hn : n ≤ 20
  · go_enter Try.func7, Try.ntmps7
    go_wp2_with fail
    generalize w.alloc (.cells #[.int .u8 (d.toNat : Int), .int .u32 (nx.toNat : Int), .slice A n c] 25) = w1 at *
    refine (right_any d nx HD.out).mono ?_
    rintro e w2 ⟨rfl, B2⟩
    have X2 := Lib.hid (BX.out.below B2 BX.out.lt)
    have Y2 := Lib.hid (BB.out.trans (B2.mono BB.out.size))
    clear B2 BX HD BB
    by_cases hf : Fit d nx es
    · rw [decide_eq_true hf]
      have HF := Lib.hid hf
      have HL := Lib.hid HD0.out.el
      have h9 : n ≤ 9 := by have := fit_len hf; rw [HL.out] at this; exact this
      obtain ⟨a0, a1, a2, _⟩ := X2.out
      clear hf
      go_wp2_with fail
      refine (encode_yes d nx (HD0.out.below Y2.out) HF.out).mono ?_
      rintro e w3 ⟨g, rfl, F3⟩
      have X3 := Lib.hid (X2.out.below F3.below X2.out.lt)
      have Y3 := Lib.hid (Y2.out.trans (F3.below.mono Y2.out.size))
      have hpg : w.heap.size < g := Nat.lt_of_lt_of_le X2.out.lt F3.lo
      have HP3 := Lib.hid (show Has w3 g 0 (shelfPage d nx es) from F3.has)
      have HF3 := Lib.hid (show (∀ i, i < 128 → w3.frozen? ⟨g, i, none⟩ = false) ∧ g < w3.heap.size from ⟨fun i hi => by
        have := F3.free i (by have := length_shelfPage d nx es (fit_len HF.out); unfold shelfPage at this; rw [this]; exact hi)
        rwa [Nat.zero_add] at this, F3.hi⟩)
      clear F3 a0 a1 a2 X2 Y2
      go_wp2_with fail
      refine (decode_page HF.out n HL.out g 0 128 _ HP3.out (by decide) (by decide)).mono ?_
      rintro e w4 ⟨ex, D⟩
      obtain rfl := D.e
      have V4 := Lib.hid (box_new (T := 25) w4 d nx (some ⟨ex, 0, none⟩) n n)
      have k4 := (Below.refl w4.heap.size w4).alloc (Nat.le_refl _) (.cells #[.int .u8 (d.toNat : Int), .int .u32 (nx.toNat : Int), .slice (some ⟨ex, 0, none⟩) n n] 25)
      have hs4 : (w4.alloc (.cells #[.int .u8 (d.toNat : Int), .int .u32 (nx.toNat : Int), .slice (some ⟨ex, 0, none⟩) n n] 25)).heap.size = w4.heap.size + 1 := by simp
      have b34 : Below w3.heap.size w3 (w4.alloc (.cells #[.int .u8 (d.toNat : Int), .int .u32 (nx.toNat : Int), .slice (some ⟨ex, 0, none⟩) n n] 25)) := D.below.trans (k4.mono D.below.size)
      have P5 := Lib.hid (HP3.out.below HF3.out.2 b34)
      have R5 := Lib.hid (D.row.below D.row.lt k4)
      have X5 := Lib.hid (X3.out.below b34 X3.out.lt)
      have Y5 := Lib.hid (Y3.out.trans (b34.mono Y3.out.size))
      have Z5 := Lib.hid (show (∀ i, i < 128 → (w4.alloc (.cells #[.int .u8 (d.toNat : Int), .int .u32 (nx.toNat : Int), .slice (some ⟨ex, 0, none⟩) n n] 25)).frozen? ⟨g, i, none⟩ = false) ∧ g < ex ∧ ex < w4.heap.size from
        ⟨fun i hi => (b34.frozen (p := ⟨g, i, none⟩) HF3.out.2).trans (HF3.out.1 i hi), Nat.lt_of_lt_of_le HF3.out.2 D.lo, D.row.lt⟩)
      have S4 := Lib.hid hs4
      clear D b34 k4 hs4 HP3 HF3 X3 Y3
      go_wp2_with fail
      generalize w4.alloc (.cells #[.int .u8 (d.toNat : Int), .int .u32 (nx.toNat : Int), .slice (some ⟨ex, 0, none⟩) n n] 25) = w5 at *
      refine (decode_page HF.out n HL.out g 0 128 _ P5.out (by decide) (by decide)).mono ?_
      rintro e w6 ⟨ey, D⟩
      obtain rfl := D.e
      have V6 := Lib.hid (box_new (T := 25) w6 d nx (some ⟨ey, 0, none⟩) n n)
      have k6 := (Below.refl w6.heap.size w6).alloc (Nat.le_refl _) (.cells #[.int .u8 (d.toNat : Int), .int .u32 (nx.toNat : Int), .slice (some ⟨ey, 0, none⟩) n n] 25)
      have b56 : Below w5.heap.size w5 (w6.alloc (.cells #[.int .u8 (d.toNat : Int), .int .u32 (nx.toNat : Int), .slice (some ⟨ey, 0, none⟩) n n] 25)) := D.below.trans (k6.mono D.below.size)
      have hgl : g < w5.heap.size := by have := Z5.out.2.1; have := Z5.out.2.2; have := S4.out; omega
      have hxl : ex < w5.heap.size := by have := Z5.out.2.2; have := S4.out; omega
      have P7 := Lib.hid (P5.out.below hgl b56)
      have R7 := Lib.hid (R5.out.below hxl b56)
      have V7 := Lib.hid (V4.out.below b56 (by have := S4.out; omega))
      have X7 := Lib.hid (X5.out.below b56 X5.out.lt)
      have Y7 := Lib.hid (Y5.out.trans (b56.mono Y5.out.size))
      have RY7 := Lib.hid (D.row.below D.row.lt k6)
      have Z7 := Lib.hid (show (∀ i, i < 128 → (w6.alloc (.cells #[.int .u8 (d.toNat : Int), .int .u32 (nx.toNat : Int), .slice (some ⟨ey, 0, none⟩) n n] 25)).frozen? ⟨g, i, none⟩ = false) ∧ g < ex ∧ ex < w4.heap.size ∧ w4.heap.size < ey ∧ ey < w6.heap.size from
        ⟨fun i hi => (b56.frozen (p := ⟨g, i, none⟩) hgl).trans (Z5.out.1 i hi), Z5.out.2.1, Z5.out.2.2, by have := D.lo; have := S4.out; omega, D.row.lt⟩)
      obtain ⟨v0, v1, v2, _⟩ := V7.out
      clear D b56 k6 P5 R5 X5 Y5 Z5 V4 hgl hxl S4
      go_wp2_with fail
      generalize w6.alloc (.cells #[.int .u8 (d.toNat : Int), .int .u32 (nx.toNat : Int), .slice (some ⟨ey, 0, none⟩) n n] 25) = w7 at *
      generalize w4.heap.size = bx at *
      generalize w6.heap.size = by' at *
      go_loopw [39] (fun i wr => ∃ k : Nat, k ≤ n ∧ i = .int .i64 (k : Int) ∧ Hid (∃ xs : List Ent, xs.length = n ∧ RowV wr ex 40 (evals xs)) ∧ Hid (But w7 wr ex)) (fun i _ => n - (intOf i).toNat)
      case atStart => exact ⟨0, Nat.zero_le _, rfl, Lib.hid ⟨es, HL.out, R7.out⟩, Lib.hid (But.refl _ _)⟩
      case round =>
        obtain ⟨k, hk, rfl, HR, HBt⟩ := hrel
        clear v0 v1 v2
        by_cases hlt : k < n
        · obtain ⟨xs, hxl, RX⟩ := HR.out
          obtain ⟨v0, v1, v2, _⟩ := V7.out.but HBt.out (by have := Z7.out; omega)
          have e1 := RX.cellAt (i := k * 2) (by rw [Nat.mul_comm]; exact evals_print _ k (by rw [hxl]; exact hlt))
          have e2 := RX.cellAt (i := k * 2 + 1) (by rw [Nat.mul_comm]; exact evals_block _ k (by rw [hxl]; exact hlt))
          have f1 := RX.free (k * 2)
          have f2 := RX.free (k * 2 + 1)
          have HR2 := Lib.hid (show ∃ ys : List Ent, ys.length = n ∧ RowV ((wr.setCell ⟨ex, k * 2, none⟩ (.int .u64 9)).setCell ⟨ex, k * 2 + 1, none⟩ (.int .u32 9)) ex 40 (evals ys) from
            ⟨xs.set k e99, by rw [List.length_set]; exact hxl, by
              have := (RX.set (k * 2) (.int .u64 9)).set (k * 2 + 1) (.int .u32 9)
              have e := evals_set xs k e99
              rw [Nat.mul_comm 2 k] at e
              rw [← e]
              exact this⟩)
          have HB2 := Lib.hid ((HBt.out.set (k * 2) (.int .u64 9)).set (k * 2 + 1) (.int .u32 9))
          have hkc : (k : Int) < (n : Int) := by omega
          generalize xs[k]'(by rw [hxl]; exact hlt) = xk at e1 e2
          have hxl' := Lib.hid hxl
          clear RX HR HBt hxl
          go_wp2_with fail
          go_roundw
          case rel => exact ⟨k + 1, by omega, by go_num, HR2, HB2⟩
          case measure => simp [intOf]; omega
        · have P8 := Lib.hid (show Has wr g 0 (shelfPage d nx es) from fun i hi => (World.cell?_of_block (HBt.out.block g (by have := Z7.out.2.1; omega))).trans (P7.out i hi))
          have X8 := Lib.hid (X7.out.but HBt.out (by have := Z7.out.2.1; omega))
          have Y8 := Lib.hid (Y7.out.trans (HBt.out.below (B := w.heap.size) (by have := Z7.out.2.1; omega)))
          have V8 := Lib.hid (V6.out.but HBt.out (by have := Z7.out; omega))
          have RY8 := Lib.hid (RY7.out.block (HBt.out.block ey (by have := Z7.out; omega)))
          have Z8 := Lib.hid (show ∀ i, i < 128 → wr.frozen? ⟨g, i, none⟩ = false from fun i hi => (World.frozen?_of_block (a := ⟨g, i, none⟩) (HBt.out.block g (by have := Z7.out.2.1; omega))).trans (Z7.out.1 i hi))
          have O8 := Over.start P8.out (length_shelfPage d nx es (fit_len HF.out))
          clear HR HBt
          obtain ⟨wm, hwm⟩ : ∃ x, x = wr := ⟨_, rfl⟩
          subst hwm
          go_wp2_with fail
          go_loopw [50] (fun i wv => ∃ z : Nat, z ≤ 128 ∧ i = .int .i64 (z : Int) ∧ Hid (Over wm wv g 128)) (fun i _ => 128 - (intOf i).toNat)
          case atStart => exact ⟨0, Nat.zero_le _, rfl, Lib.hid O8⟩
          case round =>
            obtain ⟨z, hz, rfl, HO⟩ := hrel
            clear O8
            by_cases hzt : z < 128
            · obtain ⟨cc, hcell⟩ := HO.out.at hzt
              have hfz := (HO.out.wrote.frz ⟨g, z, none⟩).trans (Z8.out z hzt)
              have HON := Lib.hid (HO.out.next hzt 0 0 rfl)
              have hzc : (z : Int) < 128 := by omega
              go_wp2_with fail
              go_roundw
              case rel => exact ⟨z + 1, by omega, by go_num, Lib.hid HON.out⟩
              case measure => simp [intOf]; omega
            · have K9 : But wm wr g := ⟨HO.out.wrote.os, HO.out.wrote.tape, HO.out.wrote.output, HO.out.wrote.size, HO.out.wrote.block⟩
              have X9 := Lib.hid (X8.out.but K9 (by omega))
              have V9 := Lib.hid (V8.out.but K9 (by have := Z7.out; omega))
              have R9 := Lib.hid (RY8.out.block (K9.block ey (by have := Z7.out; omega)))
              have Y9 := Lib.hid (Y8.out.trans (K9.below (B := w.heap.size) (by omega)))
              obtain ⟨x0, x1, x2, _⟩ := X9.out
              obtain ⟨y0, y1, y2, _⟩ := V9.out
              clear K9 HO
              go_wp2_with fail
              refine (eqshelves_any d d nx nx (R9.out.sh HL.out (by omega)) (HD0.out.below Y9.out)).mono ?_
              rintro e u1 ⟨rfl, B10⟩
              rw [decide_eq_true (show Same d d nx nx es es from ⟨rfl, rfl, rfl⟩)]
              have Y10 := Lib.hid (Y9.out.trans (B10.mono Y9.out.size))
              clear B10 x0 x1 x2 y0 y1 y2
              go_wp2_with fail
              refine (awake_any _).mono ?_
              rintro e u2 ⟨rfl, B11⟩
              have Y11 := Lib.hid (Y10.out.trans (B11.mono Y10.out.size))
              clear B11
              go_wp2_with fail
              go_ret
              exact ⟨rfl, Y11.out⟩
    · rw [decide_eq_false hf]
      clear hf
      go_wp2_with fail
      refine (awake_any _).mono ?_
      rintro e w3 ⟨rfl, B3⟩
      have Y3 := Lib.hid (Y2.out.trans (B3.mono Y2.out.size))
      clear B3
      go_wp2_with fail
      go_ret
      exact ⟨rfl, Y3.out⟩
  · go_enter Try.func7, Try.ntmps7
    go_wp2_with fail
    refine (awake_any _).mono ?_
    rintro e w2 ⟨rfl, B2⟩
    go_wp2_with fail
    go_ret
    exact ⟨rfl, BB.out.trans (B2.mono BB.out.size)⟩
end Go.Proofs.Ytamibckpkhpmfaa.Sf
