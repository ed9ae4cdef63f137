/- The reference of shelf: which shelves it calls right. -/
import Derived.Test.YtamibckpkhpmfaaSrA
import Derived.Deep.DeepCutAuto
import Derived.IntWalk
namespace Go.Proofs.Ytamibckpkhpmfaa.Sf
open Go.RowKit Go.Proofs.Ytamibckpkhpmfaa.Oct
set_option linter.unusedVariables false

theorem ahead_q (a b : Ent) (w : World) : Calls Try.prog 33 #[.agg #[.int .u64 (a.1.toNat : Int), .int .u32 (a.2.toNat : Int)], .agg #[.int .u64 (b.1.toNat : Int), .int .u32 (b.2.toNat : Int)]] w fun e w' => e = .returned (.bool (decide (lt a b))) ∧ Below w.heap.size w w' := ahead_any a b w
theorem bit_q (x : UInt64) (k : Nat) (hk : k < 64) (w : World) : Calls Try.prog 34 #[.int .u64 (x.toNat : Int), .int .i64 (k : Int)] w fun e w' => e = .returned (.int .i64 (bit x.toNat k : Int)) ∧ w' = w := (bit_any x k hk w).mono fun _ _ h => ⟨h.1, h.2.symm⟩

/-- What stands in round i of the reference's Right. -/
structure Rr (w0 w : World) (d : UInt8) (nx : UInt32) (A : Option Addr) (n c : Nat) (es : List Ent) : Prop where
  below : Below w0.heap.size w0 w
  box : Box w w0.heap.size d nx A n c
  sh : Sh w A n c es
theorem Rr.grow {w0 w w' : World} {d : UInt8} {nx : UInt32} {A : Option Addr} {n c : Nat} {es : List Ent} (h : Rr w0 w d nx A n c es) (k : Below w.heap.size w w') : Rr w0 w' d nx A n c es := ⟨h.below.trans (k.mono h.below.size), h.box.below k h.box.lt, h.sh.below k⟩
/-- The first i entries keep all that is asked of them. -/
def Good (d : Nat) (es : List Ent) (i : Nat) : Prop := Blocks (es.take i) ∧ Rises (es.take i) ∧ ∀ (h : 0 < es.length), AlikeTo d (es[0]'h).1 (es.take i)
theorem good_zero (d : Nat) (es : List Ent) : Good d es 0 := ⟨fun e he => by simp at he, by rw [List.take_zero]; trivial, fun _ e he => by simp at he⟩
theorem rises_next (es : List Ent) (i : Nat) (h : i < es.length) (hr : Rises (es.take i)) (hl : ∀ (h0 : 0 < i), lt (es[i - 1]'(by omega)) es[i]) : Rises (es.take (i + 1)) := by
  cases i with
  | zero => exact rises_one es
  | succ i => exact (rises_snoc es i h).2 ⟨hr, hl (by omega)⟩
theorem good_next (d : Nat) (es : List Ent) (i : Nat) (h : i < es.length) (hg : Good d es i) (hb : okBlock es[i]) (hl : ∀ (h0 : 0 < i), lt (es[i - 1]'(by omega)) es[i]) (ha : es[i].1.toNat / 2 ^ (64 - d) = (es[0]'(by omega)).1.toNat / 2 ^ (64 - d)) : Good d es (i + 1) :=
  ⟨(blocks_snoc es i h).2 ⟨hg.1, hb⟩, rises_next es i h hg.2.1 hl, fun h0 => (alikeTo_snoc d _ es i h).2 ⟨hg.2.2 h0, ha⟩⟩
theorem good_fit {d : UInt8} {nx : UInt32} {es : List Ent} (h1 : d.toNat ≤ 64) (h2 : nx.toNat < 4096) (h3 : es.length ≤ 9) (hg : Good d.toNat es es.length) : Fit d nx es := by
  obtain ⟨a, b, c⟩ := hg
  rw [List.take_length] at a b
  refine ⟨h1, h2, h3, a, b, ?_⟩
  by_cases h0 : 0 < es.length
  · have := c h0
    rw [List.take_length] at this
    exact (alike_iff _ _ h0).2 this
  · exact alike_nil _ _ h0

set_option maxRecDepth 100000 in
set_option maxHeartbeats 2000000 in
theorem rright_any (d : UInt8) (nx : UInt32) {w : World} {A : Option Addr} {n c : Nat} {es : List Ent} (h : Sh w A n c es) :
    Calls Try.prog 17 #[.agg #[.int .u8 (d.toNat : Int), .int .u32 (nx.toNat : Int), .slice A n c]] w fun e w' => e = .returned (.bool (decide (Fit d nx es))) ∧ Below w.heap.size w w' := by
  have HL := Lib.hid h.el
  have hn := Nat.le_trans h.kc h.km
  unfold maxLen at hn
  have HF := Lib.hid (show Fit d nx es ↔ (d.toNat ≤ 64 ∧ nx.toNat < 4096 ∧ n ≤ 9 ∧ Blocks es ∧ Rises es ∧ Alike d.toNat es) by unfold Fit; rw [HL.out])
  have b1 := (Below.refl w.heap.size w).alloc (Nat.le_refl _) (.cells #[.int .u8 (d.toNat : Int), .int .u32 (nx.toNat : Int), .slice A n c] 25)
  have R1 := Lib.hid (show Rr w (w.alloc (.cells #[.int .u8 (d.toNat : Int), .int .u32 (nx.toNat : Int), .slice A n c] 25)) d nx A n c es from ⟨b1, box_new w d nx A n c, h.below b1⟩)
  have hd := u8_le d
  have hx := u32_lt nx
  clear h b1
  by_cases h1 : d.toNat ≤ 64
  · by_cases h2 : nx.toNat < 4096
    · by_cases h3 : n ≤ 9
      · go_enter Try.func17, Try.ntmps17
        go_wp2_with fail
        generalize w.alloc (.cells #[.int .u8 (d.toNat : Int), .int .u32 (nx.toNat : Int), .slice A n c] 25) = w1 at *
        go_loopw [3] (fun i wr => ∃ k : Nat, k ≤ n ∧ i = .int .i64 (k : Int) ∧ Hid (Rr w wr d nx A n c es) ∧ Hid (Good d.toNat es k)) (fun i _ => n - (intOf i).toNat)
        case atStart => exact ⟨0, Nat.zero_le _, rfl, R1, Lib.hid (good_zero _ _)⟩
        case round =>
          obtain ⟨i, hi, rfl, HR, HG⟩ := hrel
          have h1' : d.toNat ≤ 64 := h1
          clear R1
          obtain ⟨x0, x1, x2, _⟩ := HR.out.box
          by_cases hlt : i < n
          · have hil : i < es.length := by rw [HL.out]; exact hlt
            obtain ⟨b, o, rfl, hb, c1, c2⟩ := HR.out.sh.at hlt
            have HBN := Lib.hid (fun hh => blocks_no es i hil hh)
            have HGN := Lib.hid (fun hb hl ha => good_next d.toNat es i hil HG.out hb hl ha)
            have b3 := (Below.refl wr.heap.size wr).alloc (Nat.le_refl _) (.cells #[.int .u64 ((es[i]'hil).1.toNat : Int), .int .u32 ((es[i]'hil).2.toNat : Int)] 40)
            have R3 := Lib.hid (HR.out.grow b3)
            have Z3 := Lib.hid (alloc_rowV wr 40 (evals [es[i]'hil]))
            obtain ⟨y, hy⟩ : ∃ y, y = es[i]'hil := ⟨_, rfl⟩
            rw [← hy] at c1 c2 R3 Z3 b3
            have HY := Lib.hid hy
            change Hid (RowV (wr.alloc (.cells #[.int .u64 (y.1.toNat : Int), .int .u32 (y.2.toNat : Int)] 40)) _ _ _) at Z3
            clear hy b3
            have hyb := u32_lt y.2
            have hi0 : (0 : Int) ≤ (i : Int) := by omega
            have hin : (i : Int) < (n : Int) := by omega
            go_wp2_with fail
            generalize wr.alloc (.cells #[.int .u64 (y.1.toNat : Int), .int .u32 (y.2.toNat : Int)] 40) = w3 at *
            generalize wr.heap.size = z at *
            clear x0 x1 x2 c1 c2 HR
            have z0 := Z3.out.cellAt (i := 0) rfl
            have z1 := Z3.out.cellAt (i := 1) rfl
            go_cut [54] (fun s54 wx => ∃ B : Bool, s54 = .bool B ∧ Hid (Rr w wx d nx (some ⟨b, o, none⟩) n c es ∧ RowV wx z 40 (evals [y])) ∧ Hid ((B = true → ¬ Fit d nx es) ∧ (B = false → okBlock es[i] ∧ ∀ h0 : 0 < i, lt (es[i - 1]'(by omega)) es[i])))
            case first =>
              by_cases hb1 : 1 ≤ y.2.toNat
              · have q1 : decide ((y.2.toNat : Int) < 1) = false := decide_eq_false (by omega)
                by_cases hb2 : y.2.toNat < 4096
                · have q2 : decide (4095 < (y.2.toNat : Int)) = false := decide_eq_false (by omega)
                  have HOK := Lib.hid (show okBlock es[i] from by rw [← HY.out]; exact ⟨hb1, hb2⟩)
                  by_cases h0 : 0 < i
                  · have q3 : decide ((0 : Int) < (i : Int)) = true := decide_eq_true (by omega)
                    obtain ⟨b', o', hA, _, c3, c4⟩ := R3.out.sh.at (k := i - 1) (by omega)
                    cases hA
                    have h5 : i - 1 + 1 < es.length := by omega
                    have HRN := Lib.hid (show ¬ lt (es[i - 1]'(by omega)) es[i] → ¬ Rises es from by
                      have := rises_no es (i - 1) h5
                      simpa only [show i - 1 + 1 = i by omega] using this)
                    obtain ⟨p, hp⟩ : ∃ p, p = es[i - 1]'(by omega) := ⟨_, rfl⟩
                    rw [← hp] at c3 c4 HRN
                    have HP := Lib.hid hp
                    have hw1 : IntKind.i64.wrap ((i : Int) - 1) = (i : Int) - 1 := IntWalk.i64_in _ (by omega)
                    have hw2 : (0 : Int) ≤ (i : Int) - 1 := by omega
                    have hw3 : ((i : Int) - 1).toNat = i - 1 := by omega
                    have hw4 : (i : Int) - 1 < (n : Int) := by omega
                    have hw5 : (1 : Int) ≤ (i : Int) := by omega
                    have hw6 : (i : Int) ≤ (n : Int) := by omega
                    have hw7 : 0 < i := h0
                    have hw8 : i ≤ n := by omega
                    obtain ⟨x0, x1, x2, _⟩ := R3.out.box
                    clear hp
                    go_still_tail 19, (by kernel_rfl)
                    change wpList _ _ _ _ _ w3.drew
                    have R4 := Lib.hid (R3.out.grow ((Still.drew w3).below _))
                    have Z4 := Lib.hid (Z3.out.still (Still.drew w3))
                    clear R3 Z3 z0 z1 x0 x1 x2 c3 c4 hw1 hw2 hw3 hw4 hw5 hw6 hw8
                    generalize w3.drew = w4 at *
                    go_wp2_with fail
                    refine (ahead_any p y w4).mono ?_
                    rintro e w5 ⟨rfl, B5⟩
                    have R5 := Lib.hid (R4.out.grow B5)
                    have Z5 := Lib.hid (Z4.out.below Z4.out.lt B5)
                    clear B5 R4 Z4
                    by_cases hpy : lt p y
                    · rw [decide_eq_true hpy]
                      have HPY := Lib.hid (show lt (es[i - 1]'(by omega)) es[i] from by rw [← HP.out, ← HY.out]; exact hpy)
                      clear hpy
                      go_wp2_with fail
                      go_meet
                      exact ⟨false, rfl, Lib.hid ⟨R5.out, Z5.out⟩, Lib.hid ⟨(fun h => by cases h), fun _ => ⟨HOK.out, fun _ => HPY.out⟩⟩⟩
                    · rw [decide_eq_false hpy]
                      have HD := Lib.hid (fun hf : Fit d nx es => HRN.out (fun k => hpy (by rw [← HY.out] at k; exact k)) (HF.out.1 hf).2.2.2.2.1)
                      clear hpy
                      go_wp2_with fail
                      go_meet
                      exact ⟨true, rfl, Lib.hid ⟨R5.out, Z5.out⟩, Lib.hid ⟨fun _ => HD.out, (fun h => by cases h)⟩⟩
                  · have q3 : decide ((0 : Int) < (i : Int)) = false := decide_eq_false (by omega)
                    go_quiet (fail)
                    go_wp2_with fail
                    go_meet
                    exact ⟨false, rfl, Lib.hid ⟨R3.out.grow ((Still.drewN _ _).below _), Z3.out.still (Still.drewN _ _)⟩, Lib.hid ⟨(fun h => by cases h), fun _ => ⟨HOK.out, fun h => absurd h h0⟩⟩⟩
                · have HD := Lib.hid (fun hf : Fit d nx es => HBN.out (fun hk => hb2 (by have := hk.2; rw [← HY.out] at this; exact this)) (HF.out.1 hf).2.2.2.1)
                  have q2 : decide (4095 < (y.2.toNat : Int)) = true := decide_eq_true (by omega)
                  go_quiet (fail)
                  go_wp2_with fail
                  go_meet
                  exact ⟨true, rfl, Lib.hid ⟨R3.out.grow ((Still.drewN _ _).below _), Z3.out.still (Still.drewN _ _)⟩, Lib.hid ⟨fun _ => HD.out, (fun h => by cases h)⟩⟩
              · have HD := Lib.hid (fun hf : Fit d nx es => HBN.out (fun hk => hb1 (by have := hk.1; rw [← HY.out] at this; exact this)) (HF.out.1 hf).2.2.2.1)
                have q1 : decide ((y.2.toNat : Int) < 1) = true := decide_eq_true (by omega)
                go_quiet (fail)
                go_wp2_with fail
                go_meet
                exact ⟨true, rfl, Lib.hid ⟨R3.out.grow ((Still.drewN _ _).below _), Z3.out.still (Still.drewN _ _)⟩, Lib.hid ⟨fun _ => HD.out, (fun h => by cases h)⟩⟩
            case rest =>
              obtain ⟨B, rfl, HK, HB⟩ := hcut
              clear R3 Z3 z0 z1
              cases B with
              | true =>
                have HD := Lib.hid (decide_eq_false (HB.out.1 rfl))
                go_wp2_with fail
                go_ret
                exact ⟨by rw [HD.out]; rfl, HK.out.1.below⟩
              | false =>
                have HE := Lib.hid (HB.out.2 rfl)
                go_wp2_with fail
                obtain ⟨b', o', hA, hbb, c1, _⟩ := HK.out.1.sh.at (k := 0) (by omega)
                cases hA
                obtain ⟨f, hf⟩ : ∃ f, f = (es[0]'(by omega)).1 := ⟨_, rfl⟩
                rw [← hf, Nat.zero_mul, Nat.add_zero] at c1
                have HFS := Lib.hid hf
                have HC1 := Lib.hid c1
                obtain ⟨wm, hwm⟩ : ∃ x, x = wc := ⟨_, rfl⟩
                subst hwm
                clear hf c1
                go_loopw [5] (fun j wr => ∃ k : Nat, k ≤ d.toNat ∧ j = .int .i64 (k : Int) ∧ Hid (y.1.toNat / 2 ^ (64 - k) = f.toNat / 2 ^ (64 - k)) ∧ Hid (Still wm wr)) (fun j _ => d.toNat - (intOf j).toNat)
                case atStart => exact ⟨0, Nat.zero_le _, rfl, Lib.hid (bits_zero y.1 f), Lib.hid ⟨rfl, rfl, rfl, rfl⟩⟩
                case round =>
                  obtain ⟨k, hk, rfl, HP, HS⟩ := hrel
                  obtain ⟨x0, x1, x2, _⟩ := HK.out.1.box.still HS.out
                  have z0 := (HK.out.2.still HS.out).cellAt (i := 0) rfl
                  have c1 := (HS.out.cell _).trans HC1.out
                  by_cases hkd : k < d.toNat
                  · have hkd' : (k : Int) < (d.toNat : Int) := by omega
                    have HNX := Lib.hid (bits_next y.1.toNat f.toNat k (by omega))
                    have h64 : k < 64 := by omega
                    have hn0 : (0 : Int) < (n : Int) := by omega
                    have SD := Lib.hid (show Still wm wr from HS.out)
                    clear HS
                    by_cases hbit : bit y.1.toNat k = bit f.toNat k
                    · have HP2 := Lib.hid (HNX.out.2 ⟨HP.out, hbit⟩)
                      have hbq : ((bit y.1.toNat k : Int) != (bit f.toNat k : Int)) = false := by rw [hbit]; simp
                      clear hbit HP HNX
                      go_wp2_with fail
                      go_quiet ((go_at_call 34; exact Calls.quiet_of_same (bit_q _ k h64 _)))
                      go_wp2_with fail
                      go_roundw
                      case rel => exact ⟨k + 1, by omega, by go_num, HP2, Lib.hid (by have := SD.out; exact ⟨this.os, this.tape, this.output, this.heap⟩)⟩
                      case measure => simp [intOf]; omega
                    · have HD := Lib.hid (show ¬ Fit d nx es from fun hf => by
                        have h1 := (HF.out.1 hf).2.2.2.2.2
                        have h2 := (alike_iff d.toNat es (by omega)).1 h1 _ (List.getElem_mem hil)
                        rw [← HY.out, ← HFS.out] at h2
                        exact bits_less y.1.toNat f.toNat (k + 1) d.toNat (by omega) h1' (fun e => hbit (HNX.out.1 e).2) h2)
                      have hbq : ((bit y.1.toNat k : Int) != (bit f.toNat k : Int)) = true := by rw [bne_iff_ne]; omega
                      clear hbit HP HNX
                      go_wp2_with fail
                      go_quiet ((go_at_call 34; exact Calls.quiet_of_same (bit_q _ k h64 _)))
                      go_wp2_with fail
                      go_ret
                      exact ⟨by rw [decide_eq_false HD.out]; rfl, HK.out.1.below.trans ((SD.out.below _).trans ((Still.drewN _ _).below _))⟩
                  · obtain rfl : k = d.toNat := by omega
                    have HGX := Lib.hid (HGN.out HE.out.1 HE.out.2 (by rw [← HY.out, ← HFS.out]; exact HP.out))
                    have HRX := Lib.hid (HK.out.1.grow (HS.out.below _))
                    go_wp2_with fail
                    go_roundw
                    case rel => exact ⟨i + 1, by omega, by go_num, HRX, HGX⟩
                    case measure => simp [intOf]; omega
          · go_wp2_with fail
            go_ret
            obtain rfl : i = n := by omega
            have := HG.out
            rw [← HL.out] at this
            exact ⟨by rw [decide_eq_true (good_fit (nx := nx) h1 h2 (by rw [HL.out]; exact h3) this)]; rfl, HR.out.below⟩
      · have HN := Lib.hid (show ¬ Fit d nx es from fun h => h3 (HF.out.1 h).2.2.1)
        go_enter Try.func17, Try.ntmps17
        go_wp2_with fail
        go_ret
        exact ⟨by rw [decide_eq_false HN.out]; rfl, R1.out.below⟩
    · have HN := Lib.hid (show ¬ Fit d nx es from fun h => h2 (HF.out.1 h).2.1)
      go_enter Try.func17, Try.ntmps17
      go_wp2_with fail
      go_ret
      exact ⟨by rw [decide_eq_false HN.out]; rfl, R1.out.below⟩
  · have HN := Lib.hid (show ¬ Fit d nx es from fun h => h1 (HF.out.1 h).1)
    go_enter Try.func17, Try.ntmps17
    go_wp2_with fail
    go_ret
    exact ⟨by rw [decide_eq_false HN.out]; rfl, R1.out.below⟩
end Go.Proofs.Ytamibckpkhpmfaa.Sf
