/- Layer 12, the reference: contracts of Right, At, place. -/
import Derived.Test.YtllopocekegljaaNoS
import Derived.BigQuiet
import Derived.IntWalk
namespace Go.Proofs.Ytllopocekegljaa.No
open Go.RowKit Go.Proofs.Ytllopocekegljaa.Oct Go.Proofs.Ytllopocekegljaa.Lf Go.Proofs.Ytllopocekegljaa.Mv
set_option linter.unusedVariables false
set_option linter.unusedSimpArgs false

set_option maxRecDepth 100000 in
set_option maxHeartbeats 2000000 in
theorem rright_any (l : Bool) {w : World} {A B : Option Addr} {n c m d : Nat} {ks vs : List UInt64} (h : Nd w A n c B m d ks vs) :
    Calls Try.prog 13 #[.agg #[.bool l, .slice A n c, .slice B m d]] w fun e w' => e = .returned (.bool (decide (Ok l ks vs))) ∧ Below w.heap.size w w' := by
  have HD := Lib.hid h
  have hnk : ks.length = n := h.kl
  have hvk : vs.length = m := h.vl
  have HF := Lib.hid (show Ok l ks vs ↔ (n ≤ 7 ∧ m = n ∧ Rises ks ∧ (l = true ∨ 0 < n)) by unfold Ok; rw [hnk, hvk])
  have hn63 := Nat.le_trans h.kc h.km
  have hm63 := Nat.le_trans h.vc h.vm
  unfold maxLen at hn63 hm63
  have HL := Lib.hid hnk
  clear h hnk hvk
  have HB1 := Lib.hid (HD.out.boxed (.cells #[.bool l, .slice A n c, .slice B m d] 24))
  have BB := Lib.hid ((Below.refl w.heap.size w).alloc (Nat.le_refl _) (.cells #[.bool l, .slice A n c, .slice B m d] 24))
  go_enter Try.func13, Try.ntmps13
  by_cases h2 : m = n
  · subst h2
    have hmm : ((m : Int) != (m : Int)) = false := by simp
    by_cases h1 : m ≤ 7
    · have h1i : ¬ (7 : Int) < (m : Int) := by omega
      by_cases h4 : l = false ∧ m = 0
      · obtain ⟨rfl, rfl⟩ := h4
        go_wp2_with fail
        go_ret
        exact ⟨by rw [decide_eq_false (fun hf => by rcases (HF.out.1 hf).2.2.2 with h | h; cases h; omega)]; rfl, BB.out⟩
      · have h4' : l = true ∨ 0 < m := by
          cases l
          · exact .inr (Nat.pos_of_ne_zero fun e => h4 ⟨rfl, e⟩)
          · exact .inl rfl
        have HL4 := Lib.hid h4'
        have hm0 : l = false → ((m : Int) == 0) = false := fun e => by
          rw [beq_eq_false_iff_ne]
          intro e2
          exact h4 ⟨e, by omega⟩
        have e0 := box_cell w #[.bool l, .slice A m c, .slice B m d] 24 0 _ rfl
        have e1 := box_cell w #[.bool l, .slice A m c, .slice B m d] 24 1 _ rfl
        have e2 := box_cell w #[.bool l, .slice A m c, .slice B m d] 24 2 _ rfl
        clear h4 h4'
        cases l
        · have hm0' := hm0 rfl
          have hm9 : ¬ (m : Int) = 0 := by
            rcases HL4.out with h | h
            · cases h
            · omega
          go_wp2_with fail
          go_loopw [3] (fun i wr => ∃ k : Nat, 1 ≤ k ∧ (k ≤ m ∨ k = 1) ∧ i = .int .i64 (k : Int) ∧ Hid (Rises (ks.take k)) ∧ Hid (Still (w.alloc (.cells #[.bool false, .slice A m c, .slice B m d] 24)) wr)) (fun i _ => m - (Go.RowKit.intOf i).toNat)
          case atStart => exact ⟨1, Nat.le_refl _, .inr rfl, rfl, Lib.hid (by
              unfold Rises
              rw [List.pairwise_iff_getElem]
              intro i j hi hj hij
              simp only [List.length_take] at hi hj
              omega), Lib.hid ⟨rfl, rfl, rfl, rfl⟩⟩
          case round =>
            obtain ⟨k, hk1, hk, rfl, HN, HS⟩ := hrel
            have f1 := (HS.out.cell _).trans e1
            by_cases hlt : k < m
            · have hkn : k < ks.length := by rw [HL.out]; exact hlt
              have hkn1 : k - 1 < ks.length := by omega
              obtain ⟨b, o, rfl, hH⟩ := HB1.out.ks.has (by omega)
              have hc := (HS.out.cell _).trans (hH k hkn)
              have hd := (HS.out.cell _).trans (hH (k - 1) hkn1)
              have H1 := Lib.hid (fun hl => rises_take_succ hk1 hkn HN.out hl)
              have H2 := Lib.hid (fun hl => rises_not hk1 hkn hl)
              obtain ⟨k1, hk9⟩ : ∃ q, k - 1 = q := ⟨_, rfl⟩
              have hcl := u64_lt ks[k]
              have hdl := u64_lt ks[k - 1]
              generalize ks[k] = c9 at hc H1 H2 hcl
              generalize ks[k - 1] = d9 at hd H1 H2 hdl
              rw [hk9] at hd
              have hwr : IntKind.i64.wrap ((k : Int) - 1) = (k1 : Int) := by rw [show (k : Int) - 1 = (k1 : Int) by omega]; exact IntWalk.i64_in _ (by omega)
              have hki : (k : Int) - 1 = (k1 : Int) := by omega
              have g1 : k1 < m := by omega
              have g2 : (k1 : Int) < (m : Int) := by omega
              have g3 : (k : Int) < (m : Int) := by omega
              have HK9 := Lib.hid hk9
              clear hH HN e0 e1 e2 hk9
              by_cases hcd : d9.toNat < c9.toNat
              · have hx1 : decide ((c9.toNat : Int) ≤ (d9.toNat : Int)) = false := decide_eq_false (by omega)
                have hx2 : decide (c9.toNat ≤ d9.toNat) = false := decide_eq_false (by omega)
                go_upto_region 6 with (fail)
                go_quiet (fail)
                go_wp2_with fail
                go_roundw
                case rel => exact ⟨k + 1, by omega, .inl (by omega), by go_num, Lib.hid (H1.out hcd), Lib.hid ⟨HS.out.os, HS.out.tape, HS.out.output, HS.out.heap⟩⟩
                case measure => simp [Go.RowKit.intOf]; omega
              · have hx1 : decide ((c9.toNat : Int) ≤ (d9.toNat : Int)) = true := decide_eq_true (by omega)
                have hx2 : decide (c9.toNat ≤ d9.toNat) = true := decide_eq_true (by omega)
                go_upto_region 6 with (fail)
                go_quiet (fail)
                go_wp2_with fail
                go_ret
                exact ⟨by rw [decide_eq_false (fun hf => H2.out hcd (HF.out.1 hf).2.2.1)]; rfl, BB.out.trans (Still.below (show Still (w.alloc (.cells #[.bool false, .slice (some ⟨b, o, none⟩) m c, .slice B m d] 24)) (wr.drewN nq) from ⟨HS.out.os, HS.out.tape, HS.out.output, HS.out.heap⟩) _)⟩
            · have g3 : ¬ (k : Int) < (m : Int) := by omega
              clear e0 e1 e2
              go_wp2_with fail
              go_ret
              have := HN.out
              rw [List.take_of_length_le (by rw [HL.out]; omega)] at this
              exact ⟨by rw [decide_eq_true (HF.out.2 ⟨h1, by first | rfl | trivial, this, by first | exact HL4.out | simp⟩)]; rfl, BB.out.trans (HS.out.below _)⟩
        · clear hm0
          go_wp2_with fail
          go_loopw [3] (fun i wr => ∃ k : Nat, 1 ≤ k ∧ (k ≤ m ∨ k = 1) ∧ i = .int .i64 (k : Int) ∧ Hid (Rises (ks.take k)) ∧ Hid (Still (w.alloc (.cells #[.bool true, .slice A m c, .slice B m d] 24)) wr)) (fun i _ => m - (Go.RowKit.intOf i).toNat)
          case atStart => exact ⟨1, Nat.le_refl _, .inr rfl, rfl, Lib.hid (by
              unfold Rises
              rw [List.pairwise_iff_getElem]
              intro i j hi hj hij
              simp only [List.length_take] at hi hj
              omega), Lib.hid ⟨rfl, rfl, rfl, rfl⟩⟩
          case round =>
            obtain ⟨k, hk1, hk, rfl, HN, HS⟩ := hrel
            have f1 := (HS.out.cell _).trans e1
            by_cases hlt : k < m
            · have hkn : k < ks.length := by rw [HL.out]; exact hlt
              have hkn1 : k - 1 < ks.length := by omega
              obtain ⟨b, o, rfl, hH⟩ := HB1.out.ks.has (by omega)
              have hc := (HS.out.cell _).trans (hH k hkn)
              have hd := (HS.out.cell _).trans (hH (k - 1) hkn1)
              have H1 := Lib.hid (fun hl => rises_take_succ hk1 hkn HN.out hl)
              have H2 := Lib.hid (fun hl => rises_not hk1 hkn hl)
              obtain ⟨k1, hk9⟩ : ∃ q, k - 1 = q := ⟨_, rfl⟩
              have hcl := u64_lt ks[k]
              have hdl := u64_lt ks[k - 1]
              generalize ks[k] = c9 at hc H1 H2 hcl
              generalize ks[k - 1] = d9 at hd H1 H2 hdl
              rw [hk9] at hd
              have hwr : IntKind.i64.wrap ((k : Int) - 1) = (k1 : Int) := by rw [show (k : Int) - 1 = (k1 : Int) by omega]; exact IntWalk.i64_in _ (by omega)
              have hki : (k : Int) - 1 = (k1 : Int) := by omega
              have g1 : k1 < m := by omega
              have g2 : (k1 : Int) < (m : Int) := by omega
              have g3 : (k : Int) < (m : Int) := by omega
              have HK9 := Lib.hid hk9
              clear hH HN e0 e1 e2 hk9
              by_cases hcd : d9.toNat < c9.toNat
              · have hx1 : decide ((c9.toNat : Int) ≤ (d9.toNat : Int)) = false := decide_eq_false (by omega)
                have hx2 : decide (c9.toNat ≤ d9.toNat) = false := decide_eq_false (by omega)
                go_upto_region 6 with (fail)
                go_quiet (fail)
                go_wp2_with fail
                go_roundw
                case rel => exact ⟨k + 1, by omega, .inl (by omega), by go_num, Lib.hid (H1.out hcd), Lib.hid ⟨HS.out.os, HS.out.tape, HS.out.output, HS.out.heap⟩⟩
                case measure => simp [Go.RowKit.intOf]; omega
              · have hx1 : decide ((c9.toNat : Int) ≤ (d9.toNat : Int)) = true := decide_eq_true (by omega)
                have hx2 : decide (c9.toNat ≤ d9.toNat) = true := decide_eq_true (by omega)
                go_upto_region 6 with (fail)
                go_quiet (fail)
                go_wp2_with fail
                go_ret
                exact ⟨by rw [decide_eq_false (fun hf => H2.out hcd (HF.out.1 hf).2.2.1)]; rfl, BB.out.trans (Still.below (show Still (w.alloc (.cells #[.bool true, .slice (some ⟨b, o, none⟩) m c, .slice B m d] 24)) (wr.drewN nq) from ⟨HS.out.os, HS.out.tape, HS.out.output, HS.out.heap⟩) _)⟩
            · have g3 : ¬ (k : Int) < (m : Int) := by omega
              clear e0 e1 e2
              go_wp2_with fail
              go_ret
              have := HN.out
              rw [List.take_of_length_le (by rw [HL.out]; omega)] at this
              exact ⟨by rw [decide_eq_true (HF.out.2 ⟨h1, by first | rfl | trivial, this, by first | exact HL4.out | simp⟩)]; rfl, BB.out.trans (HS.out.below _)⟩
    · have h1i : (7 : Int) < (m : Int) := by omega
      go_wp2_with fail
      go_ret
      exact ⟨by rw [decide_eq_false (fun hf => h1 (HF.out.1 hf).1)]; rfl, BB.out⟩
  · have hmm : ((n : Int) != (m : Int)) = true := by rw [bne_iff_ne]; omega
    go_wp2_with fail
    go_ret
    exact ⟨by rw [decide_eq_false (fun hf => h2 (HF.out.1 hf).2.1)]; rfl, BB.out⟩
end Go.Proofs.Ytllopocekegljaa.No
