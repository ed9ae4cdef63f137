/- The walk of ShelfDepth. -/
import Derived.Test.YtamibckpkhpmfaaSfN
import Derived.IntWalk
namespace Go.Proofs.Ytamibckpkhpmfaa.Sf
open Go.RowKit Go.Proofs.Ytamibckpkhpmfaa.Oct
set_option linter.unusedVariables false

theorem div_less (x y d d' : Nat) (h : d' ≤ d) (e : x / 2 ^ (64 - d) = y / 2 ^ (64 - d)) (h64 : d ≤ 64) : x / 2 ^ (64 - d') = y / 2 ^ (64 - d') := by
  have : 64 - d' = (64 - d) + (d - d') := by omega
  rw [this, Nat.pow_add, ← Nat.div_div_eq_div_mul, ← Nat.div_div_eq_div_mul, e]
theorem alike_less {d d' : Nat} {es : List Ent} (h : d' ≤ d) (h64 : d ≤ 64) (ha : Alike d es) : Alike d' es := by
  cases es with
  | nil => trivial
  | cons e es => exact fun x hx => div_less _ _ d d' h (ha x hx) h64
theorem fit_less {d d' : UInt8} {nx : UInt32} {es : List Ent} (hf : Fit d nx es) (h : d'.toNat ≤ d.toNat) : Fit d' nx es := ⟨by have := hf.1; omega, hf.2.1, hf.2.2.1, hf.2.2.2.1, hf.2.2.2.2.1, alike_less h hf.1 hf.2.2.2.2.2⟩
theorem fit_bare {d d' : UInt8} {nx : UInt32} {es : List Ent} (hf : Fit d nx es) (h : ¬ 0 < es.length) (h64 : d'.toNat ≤ 64) : Fit d' nx es := ⟨h64, hf.2.1, hf.2.2.1, hf.2.2.2.1, hf.2.2.2.2.1, alike_nil _ _ h⟩
theorem rises_le {es : List Ent} (h : Rises es) : ∀ (i j : Nat) (hi : i < es.length) (hj : j < es.length), i ≤ j → es[i].1.toNat ≤ es[j].1.toNat := by
  intro i j hi hj hij
  induction j with
  | zero => obtain rfl : i = 0 := by omega
            exact Nat.le_refl _
  | succ j ih =>
    by_cases e : i = j + 1
    · subst e; exact Nat.le_refl _
    · have h1 := ih (by omega) (by omega)
      have h2 := (rises_iff es).1 h j hj
      unfold lt at h2
      omega
/-- With a greater depth a right shelf is right just if its first and its last fingerprint are alike so far. -/
theorem fit_more {d d' : UInt8} {nx : UInt32} {es : List Ent} (hf : Fit d nx es) (h : 0 < es.length) (h64 : d'.toNat ≤ 64) :
    Fit d' nx es ↔ (es[0]'h).1.toNat / 2 ^ (64 - d'.toNat) = (es[es.length - 1]'(by omega)).1.toNat / 2 ^ (64 - d'.toNat) := by
  constructor
  · intro k
    have := (alike_iff d'.toNat es h).1 k.2.2.2.2.2 _ (List.getElem_mem (show es.length - 1 < es.length by omega))
    exact this.symm
  · intro e
    refine ⟨h64, hf.2.1, hf.2.2.1, hf.2.2.2.1, hf.2.2.2.2.1, (alike_iff d'.toNat es h).2 fun x hx => ?_⟩
    obtain ⟨i, hi, rfl⟩ := List.getElem_of_mem hx
    have h1 := rises_le hf.2.2.2.2.1 0 i h hi (by omega)
    have h2 := rises_le hf.2.2.2.2.1 i (es.length - 1) hi (by omega) (by omega)
    have h3 := Nat.div_le_div_right (c := 2 ^ (64 - d'.toNat)) h1
    have h4 := Nat.div_le_div_right (c := 2 ^ (64 - d'.toNat)) h2
    omega

set_option maxRecDepth 100000 in
set_option maxHeartbeats 1000000 in
theorem depth_walk (d : UInt8) (nx : UInt32) (A : Option Addr) (n c : Nat) (es : List Ent) (depth : Int) (w : World) (h : Sh w A n c es) (hdep : (Lit.int .u8 depth).wf = true) :
    Calls Try.prog 5 #[.agg #[.int .u8 (d.toNat : Int), .int .u32 (nx.toNat : Int), .slice A n c], .int .u8 depth] w fun e w' => e = .returned (.bool true) ∧ Below w.heap.size w w' := by
  obtain ⟨d', rfl⟩ := u8_of hdep
  clear hdep
  have HD0 := Lib.hid h
  have hcm := h.km
  have hnc := h.kc
  have HD := Lib.hid (h.boxed (.cells #[.int .u8 (d.toNat : Int), .int .u32 (nx.toNat : Int), .slice A n c] 25))
  have BB := Lib.hid ((Below.refl w.heap.size w).alloc (Nat.le_refl _) (.cells #[.int .u8 (d.toNat : Int), .int .u32 (nx.toNat : Int), .slice A n c] 25))
  have BX := Lib.hid (box_new (T := 25) w d nx A n c)
  have hd8 := u8_le d
  have hd8' := u8_le d'
  unfold maxLen at hcm
  clear h
  by_cases hn : n ≤ 20
  · go_enter Try.func5, Try.ntmps5
    go_wp2_with fail
    generalize w.alloc (.cells #[.int .u8 (d.toNat : Int), .int .u32 (nx.toNat : Int), .slice A n c] 25) = w1 at *
    refine (right_any d nx HD.out).mono ?_
    rintro e w2 ⟨rfl, B2⟩
    have X2 := Lib.hid (BX.out.below B2 BX.out.lt)
    have Y2 := Lib.hid (BB.out.trans (B2.mono BB.out.size))
    clear B2 BX HD BB
    by_cases hf : Fit d nx es
    · rw [decide_eq_true hf]
      have HF := Lib.hid hf
      have HL := Lib.hid HD0.out.el
      have k3 := (Below.refl w2.heap.size w2).alloc (Nat.le_refl _) (.cells #[.int .u8 (d'.toNat : Int), .int .u32 (nx.toNat : Int), .slice A n c] 25)
      have X3 := Lib.hid (X2.out.below k3 X2.out.lt)
      have Y3 := Lib.hid (Y2.out.trans (k3.mono Y2.out.size))
      obtain ⟨a0, a1, a2, _⟩ := X2.out
      clear hf k3
      go_wp2_with fail
      generalize w2.alloc (.cells #[.int .u8 (d'.toNat : Int), .int .u32 (nx.toNat : Int), .slice A n c] 25) = w3 at *
      refine (right_any d' nx (HD0.out.below Y3.out)).mono ?_
      rintro e w4 ⟨rfl, B4⟩
      have X4 := Lib.hid (X3.out.below B4 X3.out.lt)
      have Y4 := Lib.hid (Y3.out.trans (B4.mono Y3.out.size))
      clear B4 X3 Y3 X2 Y2 a0 a1 a2
      obtain ⟨a0, a1, a2, _⟩ := X4.out
      by_cases h64 : d'.toNat ≤ 64
      · by_cases hle : d'.toNat ≤ d.toNat
        · rw [decide_eq_true (fit_less HF.out hle)]
          go_wp2_with fail
          refine (awake_any _).mono ?_
          rintro e w5 ⟨rfl, B5⟩
          have Y5 := Lib.hid (Y4.out.trans (B5.mono Y4.out.size))
          clear B5
          go_wp2_with fail
          go_ret
          exact ⟨rfl, Y5.out⟩
        · by_cases h0 : 0 < n
          · have HM := Lib.hid (fit_more (d' := d') HF.out (by rw [HL.out]; exact h0) h64)
            obtain ⟨b, o, rfl, hb, c1, z1⟩ := (HD0.out.below Y4.out).at h0
            clear z1
            obtain ⟨b', o', hA, hb', c3, z1⟩ := (HD0.out.below Y4.out).at (k := n - 1) (by omega)
            clear z1
            cases hA
            rw [Nat.zero_mul, Nat.add_zero] at c1
            have e3 : es[n - 1]'(by rw [HL.out]; omega) = es[es.length - 1]'(by rw [HL.out]; omega) := by simp [HL.out]
            rw [e3] at c3
            clear e3
            generalize (es[0]'(by rw [HL.out]; exact h0)).1 = x at c1 HM
            generalize (es[es.length - 1]'(by rw [HL.out]; omega)).1 = y at c3 HM
            have hx := u64_lt x
            have hy := u64_lt y
            have hw1 : IntKind.i64.wrap ((n : Int) - 1) = (n : Int) - 1 := IntWalk.i64_in _ (by omega)
            have hw2 : (0 : Int) ≤ (n : Int) - 1 := by omega
            have hw3 : ((n : Int) - 1).toNat = n - 1 := by omega
            have hw4 : (n : Int) - 1 < (n : Int) := by omega
            have hn0 : ((n : Int) == 0) = false := by simp; omega
            have hn0' : (0 : Int) < (n : Int) := by omega
            obtain ⟨s, hs⟩ : ∃ s : Nat, s = 64 - d'.toNat := ⟨_, rfl⟩
            rw [show decide (Fit d' nx es) = decide (x.toNat / 2 ^ s = y.toNat / 2 ^ s) from by rw [hs]; exact decide_eq_decide.2 HM.out]
            have HS := Lib.hid hs
            clear hs HM
            go_wp2_with fail
            go_quiet (fail)
            have Y5 := Lib.hid (Y4.out.trans ((Still.drewN w4 nq).below _))
            clear hw1 hw2 hw3 hw4 c1 c3 a0 a1 a2 X4 Y4
            generalize w4.drewN nq = w5 at *
            go_wp2_with fail
            go_loop [7, 8, 62] (fun u v i => ∃ k : Nat, k ≤ s ∧ i = .int .i64 (k : Int) ∧ u = .int .u64 ((x.toNat / 2 ^ k : Nat) : Int) ∧ v = .int .u64 ((y.toNat / 2 ^ k : Nat) : Int)) (fun _ _ i => s - (intOf i).toNat)
            case atStart => exact ⟨0, Nat.zero_le _, rfl, by simp, by simp⟩
            case round =>
              obtain ⟨k, hk, rfl, rfl, rfl⟩ := hrel
              have hX : x.toNat / 2 ^ k < 18446744073709551616 := Nat.lt_of_le_of_lt (Nat.div_le_self _ _) hx
              have hY : y.toNat / 2 ^ k < 18446744073709551616 := Nat.lt_of_le_of_lt (Nat.div_le_self _ _) hy
              by_cases hlt : k < s
              · have HX := Lib.hid (show x.toNat / 2 ^ (k + 1) = x.toNat / 2 ^ k / 2 from by rw [Nat.pow_succ, Nat.div_div_eq_div_mul])
                have HY := Lib.hid (show y.toNat / 2 ^ (k + 1) = y.toNat / 2 ^ k / 2 from by rw [Nat.pow_succ, Nat.div_div_eq_div_mul])
                have hki : (k : Int) < 64 - (d'.toNat : Int) := by have := HS.out; omega
                generalize x.toNat / 2 ^ k = X at *
                generalize y.toNat / 2 ^ k = Y at *
                go_wp2_with fail
                go_round
                case rel => exact ⟨k + 1, by omega, by go_num, by rw [HX.out]; go_num, by rw [HY.out]; go_num⟩
                case measure => simp [intOf]; omega
              · obtain rfl : k = s := by omega
                have hki : ¬ (k : Int) < 64 - (d'.toNat : Int) := by have := HS.out; omega
                generalize x.toNat / 2 ^ k = X at *
                generalize y.toNat / 2 ^ k = Y at *
                by_cases hxy : X = Y
                · subst hxy
                  have hb : decide (X = X) = true := by simp
                  have hc : ((X : Int) == (X : Int)) = true := by simp
                  go_wp2_with fail
                  refine (awake_any _).mono ?_
                  rintro e w6 ⟨rfl, B6⟩
                  have Y6 := Lib.hid (Y5.out.trans (B6.mono Y5.out.size))
                  clear B6
                  go_wp2_with fail
                  go_ret
                  exact ⟨rfl, Y6.out⟩
                · have hb : decide (X = Y) = false := by simp [hxy]
                  have hc : ((X : Int) == (Y : Int)) = false := by rw [beq_eq_false_iff_ne]; omega
                  clear hxy
                  go_wp2_with fail
                  refine (awake_any _).mono ?_
                  rintro e w6 ⟨rfl, B6⟩
                  have Y6 := Lib.hid (Y5.out.trans (B6.mono Y5.out.size))
                  clear B6
                  go_wp2_with fail
                  go_ret
                  exact ⟨rfl, Y6.out⟩
          · rw [decide_eq_true (fit_bare (d' := d') HF.out (by rw [HL.out]; exact h0) h64)]
            have hn0 : ((n : Int) == 0) = true := by simp; omega
            go_wp2_with fail
            refine (awake_any _).mono ?_
            rintro e w5 ⟨rfl, B5⟩
            have Y5 := Lib.hid (Y4.out.trans (B5.mono Y4.out.size))
            clear B5
            go_wp2_with fail
            go_ret
            exact ⟨rfl, Y5.out⟩
      · rw [decide_eq_false (fun k : Fit d' nx es => h64 k.1)]
        go_wp2_with fail
        refine (awake_any _).mono ?_
        rintro e w5 ⟨rfl, B5⟩
        have Y5 := Lib.hid (Y4.out.trans (B5.mono Y4.out.size))
        clear B5
        go_wp2_with fail
        go_ret
        exact ⟨rfl, Y5.out⟩
    · rw [decide_eq_false hf]
      clear hf
      go_wp2_with fail
      refine (awake_any _).mono ?_
      rintro e w3 ⟨rfl, B3⟩
      have Y3 := Lib.hid (Y2.out.trans (B3.mono Y2.out.size))
      clear B3
      go_wp2_with fail
      go_ret
      exact ⟨rfl, Y3.out⟩
  · go_enter Try.func5, Try.ntmps5
    go_wp2_with fail
    refine (awake_any _).mono ?_
    rintro e w2 ⟨rfl, B2⟩
    go_wp2_with fail
    go_ret
    exact ⟨rfl, BB.out.trans (B2.mono BB.out.size)⟩
end Go.Proofs.Ytamibckpkhpmfaa.Sf
