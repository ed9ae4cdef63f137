/- Contract: EqualShelves. -/
import Derived.Test.YtamibckpkhpmfaaSfF
namespace Go.Proofs.Ytamibckpkhpmfaa.Sf
open Go.RowKit Go.Proofs.Ytamibckpkhpmfaa.Oct
set_option linter.unusedVariables false

theorem eqe_drop {xs ys : List Ent} {k : Nat} (hx : k < xs.length) (hy : k < ys.length) (h : xs.drop (k + 1) = ys.drop (k + 1)) (e : xs[k] = ys[k]) : xs.drop k = ys.drop k := by
  rw [List.drop_eq_getElem_cons hx, List.drop_eq_getElem_cons hy, e, h]
theorem run_neq_ent (a b : Ent) (w : World) : (binOp .neq 40 (.agg #[.int .u64 (a.1.toNat : Int), .int .u32 (a.2.toNat : Int)]) (.agg #[.int .u64 (b.1.toNat : Int), .int .u32 (b.2.toNat : Int)])).run Try.prog w = .ok (.bool (!decide (a = b))) w := by
  have hp : Try.prog.stoodInHeld 40 = false := by kernel_rfl
  simp [go_sem, Program.fieldsOf, Try.underlying40, hp, Op.eqFields]
  obtain ⟨a1, a2⟩ := a
  obtain ⟨b1, b2⟩ := b
  by_cases h1 : a1 = b1
  · subst h1
    by_cases h2 : a2 = b2
    · subst h2; simp
    · have h3 : ¬ (a2.toNat : Int) = (b2.toNat : Int) := fun e => h2 (UInt32.toNat_inj.1 (by omega))
      simp [h2, h3]
  · have h3 : ¬ (a1.toNat : Int) = (b1.toNat : Int) := fun e => h1 (UInt64.toNat_inj.1 (by omega))
    simp [h1, h3]

def Same (d d' : UInt8) (nx nx' : UInt32) (es es' : List Ent) : Prop := d = d' ∧ nx = nx' ∧ es = es'
instance (d d' : UInt8) (nx nx' : UInt32) (es es' : List Ent) : Decidable (Same d d' nx nx' es es') := by unfold Same; infer_instance

set_option maxRecDepth 100000 in
set_option maxHeartbeats 800000 in
theorem eqshelves_any (d d' : UInt8) (nx nx' : UInt32) {w : World} {A A' : Option Addr} {n c n' c' : Nat} {es es' : List Ent} (h : Sh w A n c es) (h' : Sh w A' n' c' es') :
    Calls Try.prog 15 #[.agg #[.int .u8 (d.toNat : Int), .int .u32 (nx.toNat : Int), .slice A n c], .agg #[.int .u8 (d'.toNat : Int), .int .u32 (nx'.toNat : Int), .slice A' n' c']] w fun e w' => e = .returned (.bool (decide (Same d d' nx nx' es es'))) ∧ Below w.heap.size w w' := by
  have HL := Lib.hid h.el
  have HL' := Lib.hid h'.el
  have hn := Nat.le_trans h.kc h.km
  have hn' := Nat.le_trans h'.kc h'.km
  unfold maxLen at hn hn'
  have BX := Lib.hid ((box_new (T := 25) w d nx A n c).below ((Below.refl _ _).alloc (Nat.le_refl _) (.cells #[.int .u8 (d'.toNat : Int), .int .u32 (nx'.toNat : Int), .slice A' n' c'] 25)) (by simp))
  have BX' := Lib.hid (box_new (T := 25) (w.alloc (.cells #[.int .u8 (d.toNat : Int), .int .u32 (nx.toNat : Int), .slice A n c] 25)) d' nx' A' n' c')
  have HD := Lib.hid ((h.boxed (.cells #[.int .u8 (d.toNat : Int), .int .u32 (nx.toNat : Int), .slice A n c] 25)).boxed (.cells #[.int .u8 (d'.toNat : Int), .int .u32 (nx'.toNat : Int), .slice A' n' c'] 25))
  have HD' := Lib.hid ((h'.boxed (.cells #[.int .u8 (d.toNat : Int), .int .u32 (nx.toNat : Int), .slice A n c] 25)).boxed (.cells #[.int .u8 (d'.toNat : Int), .int .u32 (nx'.toNat : Int), .slice A' n' c'] 25))
  have b1 := (Below.refl w.heap.size w).alloc (Nat.le_refl _) (.cells #[.int .u8 (d.toNat : Int), .int .u32 (nx.toNat : Int), .slice A n c] 25)
  have BB := Lib.hid (b1.alloc b1.size (.cells #[.int .u8 (d'.toNat : Int), .int .u32 (nx'.toNat : Int), .slice A' n' c'] 25))
  have hs : (w.alloc (.cells #[.int .u8 (d.toNat : Int), .int .u32 (nx.toNat : Int), .slice A n c] 25)).heap.size = w.heap.size + 1 := by simp
  rw [hs] at BX'
  clear h h' b1 hs
  by_cases h1 : d = d'
  · subst h1
    have e1 : ((d.toNat : Int) != (d.toNat : Int)) = false := by simp
    by_cases h2 : nx = nx'
    · subst h2
      have e2 : ((nx.toNat : Int) != (nx.toNat : Int)) = false := by simp
      by_cases h3 : n = n'
      · subst h3
        have e3 : ((n : Int) != (n : Int)) = false := by simp
        go_enter Try.func15, Try.ntmps15
        go_wp2_with fail
        generalize (w.alloc (.cells #[.int .u8 (d.toNat : Int), .int .u32 (nx.toNat : Int), .slice A n c] 25)).alloc (.cells #[.int .u8 (d.toNat : Int), .int .u32 (nx.toNat : Int), .slice A' n c'] 25) = w1 at *
        go_loopw [5] (fun i wr => ∃ k : Nat, k ≤ n ∧ i = .int .i64 ((k : Int) - 1) ∧ Hid (es.drop k = es'.drop k) ∧ Hid (Still w1 wr)) (fun i _ => (intOf i + 1).toNat)
        case atStart => exact ⟨n, Nat.le_refl _, rfl, Lib.hid (by rw [List.drop_of_length_le (by rw [HL.out]; exact Nat.le_refl _), List.drop_of_length_le (by rw [HL'.out]; exact Nat.le_refl _)]), Lib.hid ⟨rfl, rfl, rfl, rfl⟩⟩
        case round =>
          obtain ⟨k, hk, rfl, HN, HS⟩ := hrel
          have X := BX.out.still HS.out
          have X' := BX'.out.still HS.out
          by_cases h0 : 0 < k
          · have hkx : k - 1 < es.length := by rw [HL.out]; omega
            have hky : k - 1 < es'.length := by rw [HL'.out]; omega
            obtain ⟨b, o, rfl, hb, c1, c2⟩ := (HD.out.still HS.out).at (k := k - 1) (by omega)
            obtain ⟨b', o', rfl, hb', c3, c4⟩ := (HD'.out.still HS.out).at (k := k - 1) (by omega)
            have H1 := Lib.hid (fun e => eqe_drop hkx hky (by rw [show k - 1 + 1 = k by omega]; exact HN.out) e)
            have H2 := Lib.hid (show es[k - 1] ≠ es'[k - 1] → es ≠ es' from fun h e => h (by subst e; rfl))
            have hki : (k : Int) - 1 = ((k - 1 : Nat) : Int) := by omega
            generalize es[k - 1] = x at c1 c2 H1 H2
            generalize es'[k - 1] = y at c3 c4 H1 H2
            obtain ⟨x0, x1, x2, _⟩ := X
            obtain ⟨y0, y1, y2, _⟩ := X'
            have hnq := fun w' => run_neq_ent x y w'
            by_cases hxy : x = y
            · simp only [decide_eq_true hxy, Bool.not_true] at hnq
              have H5 := Lib.hid (H1.out hxy)
              clear hxy H1 H2 HN
              go_wp2_with fail
              go_quiet (fail)
              go_wp2_with fail
              go_roundw
              case rel => exact ⟨k - 1, by omega, by go_num, H5, Lib.hid ⟨HS.out.os, HS.out.tape, HS.out.output, HS.out.heap⟩⟩
              case measure => simp [intOf]; omega
            · simp only [decide_eq_false hxy, Bool.not_false] at hnq
              have H5 := Lib.hid (H2.out hxy)
              clear hxy H1 H2 HN
              go_wp2_with fail
              go_quiet (fail)
              go_wp2_with fail
              go_ret
              exact ⟨by rw [decide_eq_false (fun hf : Same d d nx nx es es' => H5.out hf.2.2)]; rfl, BB.out.trans ((HS.out.below _).trans ((Still.drewN _ _).below _))⟩
          · obtain rfl : k = 0 := by omega
            go_wp2_with fail
            go_ret
            have := HN.out
            rw [List.drop_zero, List.drop_zero] at this
            exact ⟨by rw [decide_eq_true (show Same d d nx nx es es' from ⟨rfl, rfl, this⟩)]; rfl, BB.out.trans (HS.out.below _)⟩
      · have e3 : ((n : Int) != (n' : Int)) = true := by rw [bne_iff_ne]; omega
        have HN := Lib.hid (show ¬ Same d d nx nx es es' from fun h => h3 (by rw [← HL.out, ← HL'.out, h.2.2]))
        clear h3
        go_enter Try.func15, Try.ntmps15
        go_wp2_with fail
        go_ret
        exact ⟨by rw [decide_eq_false HN.out]; rfl, BB.out⟩
    · have e2 : ((nx.toNat : Int) != (nx'.toNat : Int)) = true := by rw [bne_iff_ne]; exact fun e => h2 (UInt32.toNat_inj.1 (by omega))
      have HN := Lib.hid (show ¬ Same d d nx nx' es es' from fun h => h2 h.2.1)
      clear h2
      go_enter Try.func15, Try.ntmps15
      go_wp2_with fail
      go_ret
      exact ⟨by rw [decide_eq_false HN.out]; rfl, BB.out⟩
  · have e1 : ((d.toNat : Int) != (d'.toNat : Int)) = true := by rw [bne_iff_ne]; exact fun e => h1 (UInt8.toNat_inj.1 (by omega))
    have HN := Lib.hid (show ¬ Same d d' nx nx' es es' from fun h => h1 h.1)
    clear h1
    go_enter Try.func15, Try.ntmps15
    go_wp2_with fail
    go_ret
    exact ⟨by rw [decide_eq_false HN.out]; rfl, BB.out⟩
end Go.Proofs.Ytamibckpkhpmfaa.Sf
