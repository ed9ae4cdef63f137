/- The reference's tally: Count. (Written by bin/gen_tlcount.py.) -/
import Derived.Test.YtigmgaedpdeleaaTlS
namespace Go.Proofs.Ytigmgaedpdeleaa.Tl
open Go.RowKit Go.Proofs.Ytigmgaedpdeleaa.Oct Go.Proofs.Ytigmgaedpdeleaa.Mv Go.Maps
set_option linter.unusedVariables false

/-- The first k blocks that have changed. -/
def St.chg (s : St) (k : Nat) : List Nat := (List.range k).filter s.moved
def toI (l : List Nat) : List Int := l.map fun i : Nat => (i : Int)
theorem chg_yes {s : St} {k : Nat} (h : s.moved k = true) : s.chg (k + 1) = s.chg k ++ [k] := by simp [St.chg, List.range_succ, List.filter_append, h]
theorem chg_no {s : St} {k : Nat} (h : s.moved k = false) : s.chg (k + 1) = s.chg k := by simp [St.chg, List.range_succ, List.filter_append, h]
theorem chg_le (s : St) (k : Nat) : (s.chg k).length ≤ k := by
  have := List.length_filter_le s.moved (List.range k)
  rwa [List.length_range] at this
theorem OwnI.list {w : World} {base : Nat} {v : Value} {l : List Nat} (h : OwnI w base v (toI l)) : List64 w v l := by
  have hl : (toI l).length = l.length := by simp [toI]
  rcases h.2 with ⟨rfl, e⟩ | ⟨g, cap, cur, rfl, hb, hgg, rest⟩
  · rw [hl] at e
    exact ⟨none, 0, by rw [e], .inl (by simp [ints, List.eq_nil_of_length_eq_zero e])⟩
  · refine ⟨_, cap, by rw [hl], .inr ⟨g, 0, rfl, fun i hi => ?_⟩⟩
    rw [length_ints] at hi
    rw [Nat.zero_add, World.ownsRow.cellAt h i (by rw [hl]; omega)]
    simp [toI, ints, hi]
set_option maxRecDepth 100000 in
set_option maxHeartbeats 2000000 in
theorem rcount_any {w : World} {b1 c1 b2 c2 : Nat} {s : St} (h : RAt w b1 c1 b2 c2 s) :
    Calls Try.prog 15 #[rval s.n b1 c1 b2 c2] w fun e w' => ∃ v, e = .returned (.tuple #[.int .i64 (s.frees : Int), .int .i64 (s.idle : Int), v]) ∧ List64 w' v s.changed ∧ Below w.heap.size w w' := by
  have hn : s.n ≤ 4096 := h.ok.hi
  have B1 := (Below.refl w.heap.size w).alloc (Nat.le_refl _) (.cells #[.slice (some ⟨b1, 0, none⟩) s.n c1, .slice (some ⟨b2, 0, none⟩) s.n c2] 31)
  have R1 := alloc_rowV w 31 [.slice (some ⟨b1, 0, none⟩) s.n c1, .slice (some ⟨b2, 0, none⟩) s.n c2]
  have H1 := Lib.hid (h.below B1)
  have HB1 := Lib.hid B1
  have HR1 := Lib.hid R1
  clear h B1 R1
  unfold rval
  go_enter Try.func15, Try.ntmps15
  go_upto_region 4 with (fail)
  generalize w.alloc (.cells #[.slice (some ⟨b1, 0, none⟩) s.n c1, .slice (some ⟨b2, 0, none⟩) s.n c2] 31) = w1 at *
  obtain ⟨r, hr⟩ : ∃ r, r = w.heap.size := ⟨_, rfl⟩
  have HRR := Lib.hid hr
  rw [← hr] at HR1 ⊢
  clear hr
  obtain ⟨B, hB⟩ : ∃ B, B = w1.heap.size := ⟨_, rfl⟩
  have HBW := Lib.hid (show w.heap.size ≤ B by rw [hB]; exact HB1.out.size)
  have HBE := Lib.hid hB
  clear hB
  go_loopw [8, 5, 6, 7] (fun c f t v wz => ∃ k : Nat, k ≤ s.n ∧ c = .int .i64 (k : Int) ∧ f = .int .i64 ((List.range k).countP s.free : Int) ∧ t = .int .i64 ((List.range k).countP s.waits : Int) ∧ Hid (OwnI wz B v (toI (s.chg k))) ∧ Hid (Below w1.heap.size w1 wz)) (fun c _ _ _ _ => s.n - (Go.RowKit.intOf c).toNat)
  case atStart => exact ⟨0, Nat.zero_le _, rfl, rfl, rfl, Lib.hid (own_nil _ _), Lib.hid (Below.refl _ _)⟩
  case round =>
    obtain ⟨k, hk, rfl, rfl, rfl, HI, HB⟩ := hrel
    have hle1 := countP_le s.free k
    have hle2 := countP_le s.waits k
    have H2 := Lib.hid (H1.out.below HB.out)
    have hR2 := HR1.out.below HR1.out.lt HB.out
    have d0 := hR2.cellAt (i := 0) rfl
    have d1 := hR2.cellAt (i := 1) rfl
    clear hR2
    by_cases hlt : k < s.n
    · have hki : (k : Int) < (s.n : Int) := by omega
      have hge : (0 : Int) ≤ (k : Int) := by omega
      have hS1 := countP_succ s.free k
      have hS2 := countP_succ s.waits k
      have cn := H2.out.cnt hlt
      have cw := H2.out.was hlt
      cases hz : (s.cnt k == 0)
      · cases hm : s.moved k
        · have z1 : ¬ (((s.cnt k).toNat : Int) = 0) := by have := cnt_some (s := s) (i := k) hz; omega
          have hf : s.free k = false := by unfold St.free; rw [hz]; rfl
          have ht : s.waits k = false := by unfold St.waits; rw [hz]; rfl
          have z4 : ((s.cnt k).toNat : Int) = ((s.was k).toNat : Int) := by have e2 : s.cnt k = s.was k := (by unfold St.moved at hm; simpa using hm); rw [e2]
          rw [hf] at hS1
          rw [ht] at hS2
          have HS1 := Lib.hid hS1
          have HS2 := Lib.hid hS2
          have HC := Lib.hid (chg_no hm)
          clear hS1 hS2 hf ht hm hz
          go_upto_region 10 with (fail)
          go_quiet (fail)
          have HSt := Lib.hid (show Still wr (wr.drewN nq) from ⟨rfl, rfl, rfl, rfl⟩)
          have HI2 := Lib.hid (HI.out.still HSt.out)
          have HB2 := Lib.hid (HB.out.trans (HSt.out.below _))
          clear d0 d1 cn cw
          generalize wr.drewN nq = w2 at *
          go_wp2_with fail
          go_roundw
          case rel => exact ⟨k + 1, by omega, by go_num, by rw [HS1.out]; first | rfl | (congr 1), by rw [HS2.out]; first | rfl | (congr 1), (Lib.hid (by rw [HC.out]; exact HI2.out)), HB2⟩
          case measure => simp [Go.RowKit.intOf]; omega
        · have z1 : ¬ (((s.cnt k).toNat : Int) = 0) := by have := cnt_some (s := s) (i := k) hz; omega
          have hf : s.free k = false := by unfold St.free; rw [hz]; rfl
          have ht : s.waits k = false := by unfold St.waits; rw [hz]; rfl
          have z4 : ¬ (((s.cnt k).toNat : Int) = ((s.was k).toNat : Int)) := fun e => by have e2 : s.cnt k = s.was k := UInt16.toNat_inj.1 (by omega); unfold St.moved at hm; rw [e2] at hm; simp at hm
          rw [hf] at hS1
          rw [ht] at hS2
          have HS1 := Lib.hid hS1
          have HS2 := Lib.hid hS2
          have HC := Lib.hid (chg_yes hm)
          clear hS1 hS2 hf ht hm hz
          go_upto_region 10 with (fail)
          go_quiet (fail)
          have HSt := Lib.hid (show Still wr (wr.drewN nq) from ⟨rfl, rfl, rfl, rfl⟩)
          have HI2 := Lib.hid (HI.out.still HSt.out)
          have HB2 := Lib.hid (HB.out.trans (HSt.out.below _))
          clear d0 d1 cn cw
          generalize wr.drewN nq = w2 at *
          go_upto_region 11 with (fail)
          have B2 := (Below.refl w2.heap.size w2).alloc (Nat.le_refl _) (.cells #[.int .i64 (k : Int)] 3)
          have R2 := (alloc_rowV w2 3 [.int .i64 (k : Int)]).cellAt (i := 0) rfl
          have hw2 : B ≤ (w2.alloc (.cells #[.int .i64 (k : Int)] 3)).heap.size := by rw [HBE.out]; exact Nat.le_trans HB2.out.size B2.size
          obtain ⟨v2, w3, hrun, hown, hbel⟩ := push_int (HI2.out.below B2) R2 29 (by have := chg_le s k; simp [toI]; omega) hw2
          have HI3 := Lib.hid (show OwnI w3 B v2 (toI (s.chg (k + 1))) by rw [HC.out]; simpa [toI] using hown)
          have HB3 := Lib.hid ((HB2.out.trans (B2.mono HB2.out.size)).trans (hbel.mono (by rw [HBE.out]; exact Nat.le_refl _)))
          clear B2 R2 hw2 hown hbel
          go_wp2_with (at_builtin; refine wpList_append_run rfl (.tmp 59) (.tmp 61) 29 rfl _ _ rfl rfl _ w3 hrun ?_)
          clear hrun
          go_roundw
          case rel => exact ⟨k + 1, by omega, by go_num, by rw [HS1.out]; first | rfl | (congr 1), by rw [HS2.out]; first | rfl | (congr 1), HI3, HB3⟩
          case measure => simp [Go.RowKit.intOf]; omega
      · cases hw : (s.was k == 0)
        · have z1 : ((s.cnt k).toNat : Int) = 0 := by have := cnt_zero (s := s) (i := k) hz; omega
          have z2 : ¬ (((s.was k).toNat : Int) = 0) := fun e => by have e2 : s.was k = 0 := UInt16.toNat_inj.1 (by show _ = 0; omega); rw [e2] at hw; cases hw
          have z3 : (0 : Int) < ((s.was k).toNat : Int) := by omega
          have hf : s.free k = false := by unfold St.free; rw [hz, hw]; rfl
          have ht : s.waits k = true := by unfold St.waits; rw [hz]; simp [bne, hw]
          have hm : s.moved k = true := by rw [← waits_moved hz, ht]
          have z4 : ¬ (((s.cnt k).toNat : Int) = ((s.was k).toNat : Int)) := fun e => by have e2 : s.cnt k = s.was k := UInt16.toNat_inj.1 (by omega); unfold St.moved at hm; rw [e2] at hm; simp at hm
          rw [hf] at hS1
          rw [ht] at hS2
          have HS1 := Lib.hid hS1
          have HS2 := Lib.hid hS2
          have HC := Lib.hid (chg_yes hm)
          clear hS1 hS2 hf ht hm hz hw
          go_upto_region 10 with (fail)
          go_quiet (fail)
          have HSt := Lib.hid (show Still wr (wr.drewN nq) from ⟨rfl, rfl, rfl, rfl⟩)
          have HI2 := Lib.hid (HI.out.still HSt.out)
          have HB2 := Lib.hid (HB.out.trans (HSt.out.below _))
          clear d0 d1 cn cw
          generalize wr.drewN nq = w2 at *
          go_upto_region 11 with (fail)
          have B2 := (Below.refl w2.heap.size w2).alloc (Nat.le_refl _) (.cells #[.int .i64 (k : Int)] 3)
          have R2 := (alloc_rowV w2 3 [.int .i64 (k : Int)]).cellAt (i := 0) rfl
          have hw2 : B ≤ (w2.alloc (.cells #[.int .i64 (k : Int)] 3)).heap.size := by rw [HBE.out]; exact Nat.le_trans HB2.out.size B2.size
          obtain ⟨v2, w3, hrun, hown, hbel⟩ := push_int (HI2.out.below B2) R2 29 (by have := chg_le s k; simp [toI]; omega) hw2
          have HI3 := Lib.hid (show OwnI w3 B v2 (toI (s.chg (k + 1))) by rw [HC.out]; simpa [toI] using hown)
          have HB3 := Lib.hid ((HB2.out.trans (B2.mono HB2.out.size)).trans (hbel.mono (by rw [HBE.out]; exact Nat.le_refl _)))
          clear B2 R2 hw2 hown hbel
          go_wp2_with (at_builtin; refine wpList_append_run rfl (.tmp 59) (.tmp 61) 29 rfl _ _ rfl rfl _ w3 hrun ?_)
          clear hrun
          go_roundw
          case rel => exact ⟨k + 1, by omega, by go_num, by rw [HS1.out]; first | rfl | (congr 1), by rw [HS2.out]; first | rfl | (congr 1), HI3, HB3⟩
          case measure => simp [Go.RowKit.intOf]; omega
        · have z1 : ((s.cnt k).toNat : Int) = 0 := by have := cnt_zero (s := s) (i := k) hz; omega
          have z2 : ((s.was k).toNat : Int) = 0 := by have e : s.was k = 0 := (by simpa using hw); rw [e]; rfl
          have hf : s.free k = true := by unfold St.free; rw [hz, hw]; rfl
          have ht : s.waits k = false := by unfold St.waits; rw [hz]; simp [bne, hw]
          have hm : s.moved k = false := by rw [← waits_moved hz, ht]
          have z4 : ((s.cnt k).toNat : Int) = ((s.was k).toNat : Int) := by have e2 : s.cnt k = s.was k := (by unfold St.moved at hm; simpa using hm); rw [e2]
          rw [hf] at hS1
          rw [ht] at hS2
          have HS1 := Lib.hid hS1
          have HS2 := Lib.hid hS2
          have HC := Lib.hid (chg_no hm)
          clear hS1 hS2 hf ht hm hz hw
          go_upto_region 10 with (fail)
          go_quiet (fail)
          have HSt := Lib.hid (show Still wr (wr.drewN nq) from ⟨rfl, rfl, rfl, rfl⟩)
          have HI2 := Lib.hid (HI.out.still HSt.out)
          have HB2 := Lib.hid (HB.out.trans (HSt.out.below _))
          clear d0 d1 cn cw
          generalize wr.drewN nq = w2 at *
          go_wp2_with fail
          go_roundw
          case rel => exact ⟨k + 1, by omega, by go_num, by rw [HS1.out]; first | rfl | (congr 1), by rw [HS2.out]; first | rfl | (congr 1), (Lib.hid (by rw [HC.out]; exact HI2.out)), HB2⟩
          case measure => simp [Go.RowKit.intOf]; omega
    · obtain rfl : k = s.n := by omega
      go_wp2_with fail
      go_ret3
      exact ⟨_, rfl, HI.out.list, HB1.out.trans (HB.out.mono HB1.out.size)⟩
end Go.Proofs.Ytigmgaedpdeleaa.Tl
