/- The reference's disk: Flush that is let through. -/
import Derived.Test.YthcjhbjhghfhjaaRefD
import Derived.Deep.RegionHeld3
import Derived.Deep.RegionLaw
import Derived.Deep.AppendLies
namespace Go.Proofs.Ythcjhbjhghfhjaa.Dsk
open Go.RowKit Go.Proofs.Ythcjhbjhghfhjaa.Oct
set_option linter.unusedVariables false

set_option maxRecDepth 100000 in
set_option maxHeartbeats 1600000 in
theorem rflush_ok {w : World} {base rb : Nat} {cv wv : Value} {r : Rf} (h : RAt w base rb cv wv r) (hfew : r.came.length + r.waits.length ≤ 1000000) (hd : r.down = false) (hc : r.can = true) :
    Calls Try.prog 32 #[.pointer (some ⟨rb, 0, none⟩)] w fun e w' => e = .returned (.int .i64 0) ∧ RIs w' base rb { r.spent with came := r.came ++ r.waits, waits := [] } ∧ Turned rT base w w' := by
  have c4 := h.c4
  rw [hd] at c4
  have H := Lib.hid h
  have HC := Lib.hid hc
  clear h hc hd
  go_enter Try.func32, Try.ntmps32
  go_wp2_with fail
  refine (rthrough_at H.out).mono ?_
  rintro e w2 ⟨rfl, R2, T2⟩
  rw [HC.out]
  have hsp := Lib.hid (spent_frame r)
  obtain ⟨A, cap, rfl, hc1, hc2, hA⟩ := own_form R2.waits
  have HA := Lib.hid hA
  have HR2 := Lib.hid R2
  have HT2 := Lib.hid T2
  rw [hsp.out.2.1] at hc1 hA
  clear R2 T2 c4 hA
  unfold maxLen at hc2
  go_wp2_with fail
  go_loopw [3] (fun i wr => ∃ k : Nat, k ≤ r.waits.length ∧ i = .int .i64 (k : Int) ∧ Hid (∃ cv', RAt wr base rb cv' (.slice A r.spent.waits.length cap) { r.spent with came := r.came ++ r.waits.take k }) ∧ Turned rT base w wr) (fun i _ => r.waits.length - (intOf i).toNat)
  case atStart => exact ⟨0, Nat.zero_le _, rfl, Lib.hid ⟨cv, by rw [List.take_zero, List.append_nil, ← hsp.out.1]; exact HR2.out⟩, HT2.out⟩
  case round =>
    obtain ⟨k, hk, rfl, HR, hT⟩ := hrel
    obtain ⟨cv', R3⟩ := HR.out
    have HT3 := Lib.hid hT
    have c2 := R3.c2
    have hwl : r.spent.waits.length = r.waits.length := by rw [hsp.out.2.1]
    rw [hwl] at c2
    by_cases hlt : k < r.waits.length
    · have hki : (k : Int) < (r.waits.length : Int) := by omega
      obtain ⟨g, rfl, _, _⟩ := HA.out (by omega)
      have d := own_wait R3.waits k (by show k < r.spent.waits.length; omega)
      have d1 := d.1
      have d2 := d.2
      simp only [hsp.out.2.1] at d1 d2
      have c1 := R3.c1
      have hcl : (r.came ++ r.waits.take k).length = r.came.length + k := by simp; omega
      have f1 := R3.f 1
      have HR3 := Lib.hid R3
      have hsn := Lib.hid (take_snoc r.waits k hlt)
      generalize r.waits[k] = x at d1 d2 hsn
      obtain ⟨xp, xs⟩ := x
      clear R3 hT d HR
      unfold txt at d2
      have hbw : base ≤ wr.heap.size := by have := HR3.out.lo; have := HR3.out.lt; omega
      have HKS := Lib.hid (show ∀ w', Below wr.heap.size wr w' → w'.cell? ⟨rb, 1, none⟩ = some cv' ∧ w'.cell? ⟨rb, 2, none⟩ = some (.slice (some ⟨g, 0, none⟩) r.waits.length cap) ∧ w'.cell? ⟨g, k * 2, none⟩ = some (.int .i64 (xp : Int)) ∧ w'.cell? ⟨g, k * 2 + 1, none⟩ = some (.string ⟨xs.toArray⟩) from
        fun w' b => ⟨(b.cell (World.block_lt_of_cell? _ _ c1)).trans c1, (b.cell (World.block_lt_of_cell? _ _ c2)).trans c2, (b.cell (World.block_lt_of_cell? _ _ d1)).trans d1, (b.cell (World.block_lt_of_cell? _ _ d2)).trans d2⟩)
      have hsX : (wr.alloc (.cells #[.int .i64 (xp : Int), .string ⟨xs.toArray⟩] 99)).heap.size = wr.heap.size + 1 := by show (wr.heap.push _).size = _; exact Array.size_push _
      have hsE : (wr.alloc (.cells #[] 99)).heap.size = wr.heap.size + 1 := by show (wr.heap.push _).size = _; exact Array.size_push _
      have HEA := Lib.hid (own_none' wr wr.heap.size (Nat.le_refl _))
      have HEB := Lib.hid (World.ownsRow.alloc (own_none' wr wr.heap.size (Nat.le_refl _)) (.cells #[.int .i64 (xp : Int), .string ⟨xs.toArray⟩] 99))
      have HEC := Lib.hid (show ((wr.alloc (.cells #[.int .i64 (xp : Int), .string ⟨xs.toArray⟩] 99)).alloc (.cells #[] 99)).ownsRow wr.heap.size 99 2 (.slice (some ⟨wr.heap.size + 1, 0, none⟩) 0 0) 0 [] by have := own_none' (wr.alloc (.cells #[.int .i64 (xp : Int), .string ⟨xs.toArray⟩] 99)) wr.heap.size (by omega); rwa [hsX] at this)
      have HXB := Lib.hid (show ((wr.alloc (.cells #[] 99)).alloc (.cells #[.int .i64 (xp : Int), .string ⟨xs.toArray⟩] 99)).ownsRow base 99 2 (.slice (some ⟨wr.heap.size + 1, 0, none⟩) 1 1) 1 [.int .i64 (xp : Int), .string ⟨xs.toArray⟩] by have := own_one (wr.alloc (.cells #[] 99)) base (by omega) xp xs; rwa [hsE] at this)
      have HXC := Lib.hid (World.ownsRow.alloc (own_one wr base hbw xp xs) (.cells #[] 99))
      have HON := Lib.hid (wz_one (r.came ++ r.waits.take k))
      have HCW := Lib.hid (show wr.ownsRow base 99 2 cv' (r.came ++ r.waits.take k).length (wz (r.came ++ r.waits.take k)) from HR3.out.came)
      have hnn : (r.came ++ r.waits.take k).length ≤ 1000000 := by omega
      generalize hys : wz (r.came ++ r.waits.take k) = ys at HON HCW
      generalize hnl : (r.came ++ r.waits.take k).length = n at HCW hnn
      have HYS := Lib.hid (And.intro hys hnl)
      clear hys hnl
      have HCA := Lib.hid (World.ownsRow.alloc HCW.out (.cells #[] 99))
      have HCB := Lib.hid (World.ownsRow.alloc (World.ownsRow.alloc HCW.out (.cells #[] 99)) (.cells #[.int .i64 (xp : Int), .string ⟨xs.toArray⟩] 99))
      have HCC := Lib.hid (World.ownsRow.alloc (World.ownsRow.alloc HCW.out (.cells #[.int .i64 (xp : Int), .string ⟨xs.toArray⟩] 99)) (.cells #[] 99))
      have HBA := Lib.hid ((Below.refl wr.heap.size wr).alloc (Nat.le_refl _) (.cells #[] 99))
      have HBB := Lib.hid (((Below.refl wr.heap.size wr).alloc (Nat.le_refl _) (.cells #[] 99)).alloc (by omega) (.cells #[.int .i64 (xp : Int), .string ⟨xs.toArray⟩] 99))
      have HBC := Lib.hid (((Below.refl wr.heap.size wr).alloc (Nat.le_refl _) (.cells #[.int .i64 (xp : Int), .string ⟨xs.toArray⟩] 99)).alloc (by omega) (.cells #[] 99))
      clear hsX hsE c1 c2 d1 d2
      obtain ⟨c1, c2, d1, d2⟩ := HKS.out _ (Below.refl _ _)
      go_wp2_with fail
      have HFS := Lib.hid (show ∀ w', Below wr.heap.size wr w' → w'.frozen? ⟨rb, 1, none⟩ = false from fun w' b => (World.frozen?_of_block (a := ⟨rb, 1, none⟩) (b.block rb HR3.out.lt)).trans (HR3.out.f 1))
      obtain ⟨a1, a2, a3, a4⟩ := HKS.out _ HBA.out
      have HBD := Lib.hid ((Below.refl wr.heap.size wr).alloc (Nat.le_refl _) (.cells #[.int .i64 (xp : Int), .string ⟨xs.toArray⟩] 99))
      obtain ⟨g1, g2, g3, g4⟩ := HKS.out _ HBD.out
      obtain ⟨b1, b2, b3, b4⟩ := HKS.out _ HBB.out
      obtain ⟨z1, z2, z3, z4⟩ := HKS.out _ HBC.out
      go_region_law (first | (refine step_app rfl (.tmp 28) (.tmp 36) rfl rfl rfl HO1.out HX1.out (wait_one _ _) (by omega) hs1 ?_; intro A2 k2 w2' O2 G2; have HBQ := Lib.hid (show Below wr.heap.size wr w2' from below_grown G2 (by (repeat' (first | exact Below.refl _ _ | exact HBQ.out | exact HBP.out | refine Below.drew ?_ | refine Below.alloc ?_ (by first | exact hs1 | omega | (simp <;> omega)) _))) (Nat.le_refl _) (fun k hk => (World.ownsRow.lt HO1.out k hk).1)); have HO2 := Lib.hid (own_mono O2 hbw); have hK2 := HKS.out _ HBQ.out; obtain ⟨y1, y2, y3, y4⟩ := hK2; have hF2 := HFS.out _ HBQ.out; clear O2 G2) | (refine step_app rfl (.tmp 28) (.tmp 36) rfl rfl rfl (World.ownsRow.alloc HO1.out (.cells #[.int .i64 (xp : Int), .string ⟨xs.toArray⟩] 99)) (own_one w1 base (Nat.le_trans hbw hs1) xp xs) (wait_one _ _) (by omega) (Nat.le_trans hs1 (Below.size (w := w1) ((Below.refl w1.heap.size w1).alloc (Nat.le_refl _) _))) ?_; intro A2 k2 w2' O2 G2; have HBQ := Lib.hid (show Below wr.heap.size wr w2' from below_grown G2 (by (repeat' (first | exact Below.refl _ _ | exact HBQ.out | exact HBP.out | refine Below.drew ?_ | refine Below.alloc ?_ (by first | exact hs1 | omega | (simp <;> omega)) _))) (Nat.le_refl _) (fun k hk => (World.ownsRow.lt HO1.out k hk).1)); have HO2 := Lib.hid (own_mono O2 hbw); have hK2 := HKS.out _ HBQ.out; obtain ⟨y1, y2, y3, y4⟩ := hK2; have hF2 := HFS.out _ HBQ.out; clear O2 G2) | (refine step_app0 rfl (.tmp 23) (.tmp 27) rfl rfl rfl HEB.out HCB.out HON.out (by omega) HBB.out.size ?_; intro A1 k1 w1 O1 G1; have HBP := Lib.hid (show Below wr.heap.size wr w1 from below_grown G1 (by (repeat' (first | exact Below.refl _ _ | exact HBQ.out | exact HBP.out | refine Below.drew ?_ | refine Below.alloc ?_ (by first | exact hs1 | omega | (simp <;> omega)) _))) (Nat.le_refl _) (fun k hk => le_own hk (by omega))); have HX1 := Lib.hid (own_grown G1 HXB.out (fun k hk e => ne_own hk e (by omega))); have HO1 := Lib.hid O1; have hs1 := HBP.out.size; have hK1 := HKS.out _ HBP.out; obtain ⟨x1, x2, x3, x4⟩ := hK1; have hF1 := HFS.out _ HBP.out; clear O1 G1) | (refine step_app0 rfl (.tmp 23) (.tmp 27) rfl rfl rfl HEC.out HCC.out HON.out (by omega) HBC.out.size ?_; intro A1 k1 w1 O1 G1; have HBP := Lib.hid (show Below wr.heap.size wr w1 from below_grown G1 (by (repeat' (first | exact Below.refl _ _ | exact HBQ.out | exact HBP.out | refine Below.drew ?_ | refine Below.alloc ?_ (by first | exact hs1 | omega | (simp <;> omega)) _))) (Nat.le_refl _) (fun k hk => le_own hk (by omega))); have HX1 := Lib.hid (own_grown G1 HXC.out (fun k hk e => ne_own hk e (by omega))); have HO1 := Lib.hid O1; have hs1 := HBP.out.size; have hK1 := HKS.out _ HBP.out; obtain ⟨x1, x2, x3, x4⟩ := hK1; have hF1 := HFS.out _ HBP.out; clear O1 G1) | (refine step_app0 rfl (.tmp 23) (.tmp 27) rfl rfl rfl HEA.out HCA.out HON.out (by omega) HBA.out.size ?_; intro A1 k1 w1 O1 G1; have HBP := Lib.hid (show Below wr.heap.size wr w1 from below_grown G1 (by (repeat' (first | exact Below.refl _ _ | exact HBQ.out | exact HBP.out | refine Below.drew ?_ | refine Below.alloc ?_ (by first | exact hs1 | omega | (simp <;> omega)) _))) (Nat.le_refl _) (fun k hk => le_own hk (by omega))); have HO1 := Lib.hid O1; have hs1 := HBP.out.size; have hK1 := HKS.out _ HBP.out; obtain ⟨x1, x2, x3, x4⟩ := hK1; have hF1 := HFS.out _ HBP.out; clear O1 G1))
      all_goals
        have HN1 := Lib.hid (show (r.came ++ r.waits.take (k + 1)).length = n + 1 by rw [← HYS.out.2, hsn.out, ← List.append_assoc, List.length_append]; rfl)
        have HN2 := Lib.hid (show wz (r.came ++ r.waits.take (k + 1)) = ys ++ [.int .i64 (xp : Int), .string ⟨xs.toArray⟩] by rw [← HYS.out.1, hsn.out, ← List.append_assoc, wz_snoc]; rfl)
        have HRN := Lib.hid (RAt.came' (n := 0) (HR3.out.below HBQ.out) (r.came ++ r.waits.take (k + 1)) (by rw [HN1.out, HN2.out]; exact HO2.out) (by rw [HN1.out]; have := HYS.out.2; omega))
        have HTN := Lib.hid ((HT3.out.trans (Turned.of_below HBQ.out)).setCell (p := ⟨rb, 1, none⟩) HR3.out.lo (HR3.out.below HBQ.out).head rfl (.slice A2 (n + 1) k2))
        go_wp2_with fail
        go_roundw
        case rel => exact ⟨k + 1, by omega, by go_num, Lib.hid ⟨_, HRN.out⟩, HTN.out⟩
        case measure => simp [intOf]; omega
    · obtain rfl : k = r.waits.length := by omega
      have d2 := R3.c2
      have f2 := R3.f 2
      have R6 := RAt.waits' (n := 0) R3 [] (World.ownsRow_nil _ _ _ _) (Nat.zero_le _)
      have HR6 := Lib.hid (show RAt (wr.setCell ⟨rb, 2, none⟩ (.slice none 0 0)) base rb cv' (.slice none 0 0) { r.spent with came := r.came ++ r.waits, waits := [] } by have := R6; rwa [List.take_length] at this)
      have HT6 := Lib.hid (HT3.out.setCell (p := ⟨rb, 2, none⟩) R3.lo R3.head rfl (.slice none 0 0))
      clear R3 R6
      go_wp2_with fail
      go_ret
      exact ⟨rfl, ⟨_, _, HR6.out⟩, HT6.out⟩
end Go.Proofs.Ythcjhbjhghfhjaa.Dsk
