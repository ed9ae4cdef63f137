/- Contract: shelf.rising. -/
import Derived.Test.YtamibckpkhpmfaaSfC
import Derived.Test.YtamibckpkhpmfaaSfD
import Derived.RegionTactic
import Derived.StillTailTactics
namespace Go.Proofs.Ytamibckpkhpmfaa.Sf
open Go.RowKit Go.Proofs.Ytamibckpkhpmfaa.Oct
set_option linter.unusedVariables false

theorem cmp64' (a b : Nat) (w : World) : Calls Try.prog 41 #[.int .u64 (a : Int), .int .u64 (b : Int)] w fun e w' => e = .returned (.int .i64 (cmp3 a b)) ∧ w' = w := (cmp64 a b w).mono fun _ _ h => ⟨h.1, h.2.symm⟩
theorem cmp32' (a b : Nat) (w : World) : Calls Try.prog 42 #[.int .u32 (a : Int), .int .u32 (b : Int)] w fun e w' => e = .returned (.int .i64 (cmp3 a b)) ∧ w' = w := (cmp32 a b w).mono fun _ _ h => ⟨h.1, h.2.symm⟩
theorem pair_row (w : World) (x y : Int) : (w.alloc (.cells #[.int .i64 x, .int .i64 y] 3)).cell? ⟨w.heap.size, 0, none⟩ = some (.int .i64 x) ∧ (w.alloc (.cells #[.int .i64 x, .int .i64 y] 3)).cell? ⟨w.heap.size, 1, none⟩ = some (.int .i64 y) := by
  have R := alloc_rowV w 3 [.int .i64 x, .int .i64 y]
  exact ⟨R.cellAt (i := 0) rfl, R.cellAt (i := 1) rfl⟩
/-- Two entries in blocks of their own, the newest there are. -/
structure Boxes (w w' : World) (x y : Ent) : Prop where
  a0 : w'.cell? ⟨w.heap.size, 0, none⟩ = some (.int .u64 (x.1.toNat : Int))
  a1 : w'.cell? ⟨w.heap.size, 1, none⟩ = some (.int .u32 (x.2.toNat : Int))
  b0 : w'.cell? ⟨w.heap.size + 1, 0, none⟩ = some (.int .u64 (y.1.toNat : Int))
  b1 : w'.cell? ⟨w.heap.size + 1, 1, none⟩ = some (.int .u32 (y.2.toNat : Int))
  below : Below w.heap.size w w'
theorem boxes_of {T : TypeId} (w : World) (x y : Ent) : Boxes w (((w.alloc (.cells #[.int .u64 (x.1.toNat : Int), .int .u32 (x.2.toNat : Int)] T)).alloc (.cells #[.int .u64 (y.1.toNat : Int), .int .u32 (y.2.toNat : Int)] T)).drew) x y := by
  have R1 := alloc_rowV w T [.int .u64 (x.1.toNat : Int), .int .u32 (x.2.toNat : Int)]
  have b1 := (Below.refl w.heap.size w).alloc (Nat.le_refl _) (.cells #[.int .u64 (x.1.toNat : Int), .int .u32 (x.2.toNat : Int)] T)
  have hs : (w.alloc (.cells #[.int .u64 (x.1.toNat : Int), .int .u32 (x.2.toNat : Int)] T)).heap.size = w.heap.size + 1 := by simp
  change RowV (w.alloc (.cells #[.int .u64 (x.1.toNat : Int), .int .u32 (x.2.toNat : Int)] T)) _ _ _ at R1
  generalize w.alloc (.cells #[.int .u64 (x.1.toNat : Int), .int .u32 (x.2.toNat : Int)] T) = w1 at *
  have R2 := alloc_rowV w1 T [.int .u64 (y.1.toNat : Int), .int .u32 (y.2.toNat : Int)]
  have b2 := (Below.refl w1.heap.size w1).alloc (Nat.le_refl _) (.cells #[.int .u64 (y.1.toNat : Int), .int .u32 (y.2.toNat : Int)] T)
  change RowV (w1.alloc (.cells #[.int .u64 (y.1.toNat : Int), .int .u32 (y.2.toNat : Int)] T)) _ _ _ at R2
  generalize w1.alloc (.cells #[.int .u64 (y.1.toNat : Int), .int .u32 (y.2.toNat : Int)] T) = w2 at *
  have R1' := (R1.below R1.lt b2).still (Still.drew w2)
  have R2' := R2.still (Still.drew w2)
  rw [hs] at R2'
  exact ⟨R1'.cellAt (i := 0) rfl, R1'.cellAt (i := 1) rfl, R2'.cellAt (i := 0) rfl, R2'.cellAt (i := 1) rfl, b1.trans ((b2.mono (by omega)).trans ((Still.drew w2).below _))⟩

set_option maxRecDepth 100000 in
set_option maxHeartbeats 800000 in
theorem rising_any {w : World} {A : Option Addr} {n c : Nat} {es : List Ent} (h : Sh w A n c es) :
    Calls Try.prog 31 #[.slice A n c] w fun e w' => e = .returned (.bool (decide (Rises es))) ∧ Below w.heap.size w w' := by
  have HD := Lib.hid h
  have HL := Lib.hid h.el
  have hn := Nat.le_trans h.kc h.km
  unfold maxLen at hn
  clear h
  go_enter Try.func31, Try.ntmps31
  go_wp2_with fail
  go_loopw [3] (fun i wr => ∃ k : Nat, (k < n ∨ k = 0) ∧ i = .int .i64 ((k : Int) + 1) ∧ Hid (Rises (es.take (k + 1))) ∧ Hid (Below w.heap.size w wr)) (fun i _ => n + 1 - (intOf i).toNat)
  case atStart => exact ⟨0, .inr rfl, rfl, Lib.hid (rises_one es), Lib.hid (Below.refl _ _)⟩
  case round =>
    obtain ⟨k, hk, rfl, HB, HW⟩ := hrel
    by_cases hlt : k + 1 < n
    · obtain ⟨b, o, rfl, hb, c1, c2⟩ := (HD.out.below HW.out).at (k := k) (by omega)
      obtain ⟨b', o', hA, hb', c3, c4⟩ := (HD.out.below HW.out).at (k := k + 1) hlt
      cases hA
      have HS := Lib.hid (rises_snoc es k (by rw [HL.out]; exact hlt))
      have HN := Lib.hid (rises_no es k (by rw [HL.out]; exact hlt))
      generalize es[k]'(by rw [HL.out]; omega) = x at c1 c2 HS HN
      generalize es[k + 1]'(by rw [HL.out]; exact hlt) = y at c3 c4 HS HN
      have hx := u32_lt x.2
      have hki : (k : Int) + 1 - 1 = (k : Int) := by omega
      have hlt2 : (k : Int) + 1 < (n : Int) := by omega
      have XA := Lib.hid (boxes_of (T := 40) wr x y)
      have XB := Lib.hid (boxes_of (T := 40) wr y x)
      have HO := Lib.hid (or_lt x y)
      have HW2 := Lib.hid (HW.out.trans (XA.out.below.mono HW.out.size))
      have HW3 := Lib.hid (HW.out.trans (XB.out.below.mono HW.out.size))
      go_wp2_with fail
      go_region
      all_goals
        first
          | (have HX := Lib.hid XA.out; have HY := Lib.hid HW2.out; generalize (((wr.alloc (.cells #[.int .u64 (x.1.toNat : Int), .int .u32 (x.2.toNat : Int)] 40)).alloc (.cells #[.int .u64 (y.1.toNat : Int), .int .u32 (y.2.toNat : Int)] 40)).drew) = wx at HX HY ⊢; have q0 := HX.out.a0; have q1 := HX.out.a1; have q2 := HX.out.b0; have q3 := HX.out.b1; change Exit.then _ _ Exit.normal _ wx)
          | (have HX := Lib.hid XB.out; have HY := Lib.hid HW3.out; generalize (((wr.alloc (.cells #[.int .u64 (y.1.toNat : Int), .int .u32 (y.2.toNat : Int)] 40)).alloc (.cells #[.int .u64 (x.1.toNat : Int), .int .u32 (x.2.toNat : Int)] 40)).drew) = wx at HX HY ⊢; have q0 := HX.out.a0; have q1 := HX.out.a1; have q2 := HX.out.b0; have q3 := HX.out.b1; change Exit.then _ _ Exit.normal _ wx)
        clear XA XB HW2 HW3 HW
        go_wp2_with fail
        go_still_tail 10, (by kernel_rfl)
        still_call (cmp64' _ _ _)
        repeat still_step
        still_call (cmp32' _ _ _)
        repeat still_step
        refine wpStill_nil ?_
        change wpList _ _ _ _ _ wx.drew
        have HZ := Lib.hid (HY.out.trans ((Still.drew wx).below _))
        clear HX HY q0 q1 q2 q3
        generalize wx.drew = wy at *
        have HR := Lib.hid (pair_row wy (cmp3 x.1.toNat y.1.toNat) (cmp3 x.2.toNat y.2.toNat))
        have HZ2 := Lib.hid (HZ.out.alloc HZ.out.size (.cells #[.int .i64 (cmp3 x.1.toNat y.1.toNat), .int .i64 (cmp3 x.2.toNat y.2.toNat)] 3))
        generalize cmp3 x.1.toNat y.1.toNat = p1 at *
        generalize cmp3 x.2.toNat y.2.toNat = p2 at *
        go_wp2_with fail
        refine (or_two wy.heap.size p1 p2 _ HR.out.1 HR.out.2).mono ?_
        rintro e w' ⟨rfl, rfl⟩
        by_cases hxy : lt x y
        · have hge : ¬ (0 : Int) ≤ or2 p1 p2 := fun h => HO.out.1 h hxy
          have HB2 := Lib.hid (HS.out.2 ⟨HB.out, hxy⟩)
          clear HS HN HB HO hxy
          go_wp2_with fail
          go_roundw
          case rel => exact ⟨k + 1, by omega, by go_num, HB2, HZ2⟩
          case measure => simp [intOf]; omega
        · have hge : (0 : Int) ≤ or2 p1 p2 := HO.out.2 hxy
          have HB2 := Lib.hid (HN.out hxy)
          clear HS HN HB HO hxy
          go_wp2_with fail
          go_ret
          exact ⟨by rw [decide_eq_false HB2.out]; rfl, HZ2.out⟩
    · go_wp2_with fail
      go_ret
      have := HB.out
      rw [List.take_of_length_le (by rw [HL.out]; omega)] at this
      exact ⟨by rw [decide_eq_true this]; rfl, HW.out⟩
end Go.Proofs.Ytamibckpkhpmfaa.Sf
