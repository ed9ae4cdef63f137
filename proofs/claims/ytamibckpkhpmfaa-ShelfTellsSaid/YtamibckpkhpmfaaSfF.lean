/- Contracts: shelf.Right, and EqualShelves. -/
import Derived.Test.YtamibckpkhpmfaaSfE
namespace Go.Proofs.Ytamibckpkhpmfaa.Sf
open Go.RowKit Go.Proofs.Ytamibckpkhpmfaa.Oct
set_option linter.unusedVariables false

theorem box_cell (w : World) (xs : Array Value) (T : TypeId) (i : Nat) (v : Value) (h : xs[i]? = some v) : (w.alloc (.cells xs T)).cell? ⟨w.heap.size, i, none⟩ = some v := by
  have := heap_alloc_new w (.cells xs T)
  generalize w.alloc (.cells xs T) = w' at this
  simp [World.cell?, this, h]

/-- A shelf in a variable. -/
structure Box (w : World) (g : Nat) (d : UInt8) (nx : UInt32) (A : Option Addr) (n c : Nat) : Prop where
  c0 : w.cell? ⟨g, 0, none⟩ = some (.int .u8 (d.toNat : Int))
  c1 : w.cell? ⟨g, 1, none⟩ = some (.int .u32 (nx.toNat : Int))
  c2 : w.cell? ⟨g, 2, none⟩ = some (.slice A n c)
  lt : g < w.heap.size
theorem Box.below {w w' : World} {g n c B : Nat} {d : UInt8} {nx : UInt32} {A : Option Addr} (h : Box w g d nx A n c) (k : Below B w w') (hB : g < B) : Box w' g d nx A n c :=
  ⟨(k.cell (p := ⟨g, 0, none⟩) hB).trans h.c0, (k.cell (p := ⟨g, 1, none⟩) hB).trans h.c1, (k.cell (p := ⟨g, 2, none⟩) hB).trans h.c2, Nat.lt_of_lt_of_le h.lt k.size⟩
theorem Box.still {w w' : World} {g n c : Nat} {d : UInt8} {nx : UInt32} {A : Option Addr} (h : Box w g d nx A n c) (S : Still w w') : Box w' g d nx A n c :=
  ⟨(S.cell _).trans h.c0, (S.cell _).trans h.c1, (S.cell _).trans h.c2, by rw [S.heap]; exact h.lt⟩
theorem box_new {T : TypeId} (w : World) (d : UInt8) (nx : UInt32) (A : Option Addr) (n c : Nat) : Box (w.alloc (.cells #[.int .u8 (d.toNat : Int), .int .u32 (nx.toNat : Int), .slice A n c] T)) w.heap.size d nx A n c :=
  ⟨box_cell w _ _ 0 _ rfl, box_cell w _ _ 1 _ rfl, box_cell w _ _ 2 _ rfl, by simp⟩

set_option maxRecDepth 100000 in
set_option maxHeartbeats 800000 in
theorem right_any (d : UInt8) (nx : UInt32) {w : World} {A : Option Addr} {n c : Nat} {es : List Ent} (h : Sh w A n c es) :
    Calls Try.prog 16 #[.agg #[.int .u8 (d.toNat : Int), .int .u32 (nx.toNat : Int), .slice A n c]] w fun e w' => e = .returned (.bool (decide (Fit d nx es))) ∧ Below w.heap.size w w' := by
  have HD := Lib.hid h
  have HL := Lib.hid h.el
  have hn := Nat.le_trans h.kc h.km
  unfold maxLen at hn
  clear h
  have HF := Lib.hid (show Fit d nx es ↔ (d.toNat ≤ 64 ∧ nx.toNat < 4096 ∧ n ≤ 9 ∧ Blocks es ∧ Rises es ∧ Alike d.toNat es) by unfold Fit; rw [HL.out])
  have BB := Lib.hid ((Below.refl w.heap.size w).alloc (Nat.le_refl _) (.cells #[.int .u8 (d.toNat : Int), .int .u32 (nx.toNat : Int), .slice A n c] 25))
  have BX := Lib.hid (box_new (T := 25) w d nx A n c)
  have HD1 := Lib.hid (HD.out.boxed (.cells #[.int .u8 (d.toNat : Int), .int .u32 (nx.toNat : Int), .slice A n c] 25))
  have hd := u8_le d
  have hx := u32_lt nx
  by_cases h1 : d.toNat ≤ 64
  · by_cases h2 : nx.toNat < 4096
    · by_cases h3 : n ≤ 9
      · go_enter Try.func16, Try.ntmps16
        go_wp2_with fail
        generalize w.alloc (.cells #[.int .u8 (d.toNat : Int), .int .u32 (nx.toNat : Int), .slice A n c] 25) = w1 at *
        refine (blocks_any HD1.out).mono ?_
        rintro e w2 ⟨rfl, B2⟩
        have Y2 := Lib.hid (BB.out.trans (B2.mono BB.out.size))
        have X2 := Lib.hid (BX.out.below B2 BX.out.lt)
        have HD2 := Lib.hid (HD1.out.below B2)
        clear B2
        by_cases h4 : Blocks es
        · rw [decide_eq_true h4]
          obtain ⟨x0, x1, x2, _⟩ := X2.out
          have H4 := Lib.hid h4
          clear h4
          go_wp2_with fail
          refine (rising_any HD2.out).mono ?_
          rintro e w3 ⟨rfl, B3⟩
          have Y3 := Lib.hid (Y2.out.trans (B3.mono Y2.out.size))
          have X3 := Lib.hid (X2.out.below B3 X2.out.lt)
          have HD3 := Lib.hid (HD2.out.below B3)
          clear B3 x0 x1 x2
          by_cases h5 : Rises es
          · rw [decide_eq_true h5]
            obtain ⟨x0, x1, x2, _⟩ := X3.out
            have H5 := Lib.hid h5
            clear h5
            go_wp2_with fail
            refine (alike_any d h1 HD3.out).mono ?_
            rintro e w4 ⟨rfl, B4⟩
            have Y4 := Lib.hid (Y3.out.trans (B4.mono Y3.out.size))
            clear B4 x0 x1 x2
            go_wp2_with fail
            go_ret
            exact ⟨by rw [decide_eq_decide.2 (show Fit d nx es ↔ Alike d.toNat es from ⟨fun h => (HF.out.1 h).2.2.2.2.2, fun h => HF.out.2 ⟨h1, h2, h3, H4.out, H5.out, h⟩⟩)]; rfl, Y4.out⟩
          · rw [decide_eq_false h5]
            have HN := Lib.hid (show ¬ Fit d nx es from fun h => h5 (HF.out.1 h).2.2.2.2.1)
            clear h5
            go_wp2_with fail
            go_ret
            exact ⟨by rw [decide_eq_false HN.out]; rfl, Y3.out⟩
        · rw [decide_eq_false h4]
          have HN := Lib.hid (show ¬ Fit d nx es from fun h => h4 (HF.out.1 h).2.2.2.1)
          clear h4
          go_wp2_with fail
          go_ret
          exact ⟨by rw [decide_eq_false HN.out]; rfl, Y2.out⟩
      · have HN := Lib.hid (show ¬ Fit d nx es from fun h => h3 (HF.out.1 h).2.2.1)
        go_enter Try.func16, Try.ntmps16
        go_wp2_with fail
        go_ret
        exact ⟨by rw [decide_eq_false HN.out]; rfl, BB.out⟩
    · have HN := Lib.hid (show ¬ Fit d nx es from fun h => h2 (HF.out.1 h).2.1)
      go_enter Try.func16, Try.ntmps16
      go_wp2_with fail
      go_ret
      exact ⟨by rw [decide_eq_false HN.out]; rfl, BB.out⟩
  · have HN := Lib.hid (show ¬ Fit d nx es from fun h => h1 (HF.out.1 h).1)
    go_enter Try.func16, Try.ntmps16
    go_wp2_with fail
    go_ret
    exact ⟨by rw [decide_eq_false HN.out]; rfl, BB.out⟩
end Go.Proofs.Ytamibckpkhpmfaa.Sf
