/- The reference's Right. -/
import Derived.Test.YtelaconfjofciaaLrK
import Derived.Test.YtelaconfjofciaaLfK
import Derived.Deep.DeepCutAuto
namespace Go.Proofs.Ytelaconfjofciaa.Lf
open Go.RowKit Go.Proofs.Ytelaconfjofciaa.Oct
set_option linter.unusedVariables false

theorem var_new' (w : World) (l : Bool) (A : Option Addr) (n c : Nat) (B : Option Addr) (m d : Nat) : (w.alloc (.cells #[.bool l, .slice A n c, .slice B m d] 24)).cell? ⟨w.heap.size, 0, none⟩ = some (.bool l) ∧ (w.alloc (.cells #[.bool l, .slice A n c, .slice B m d] 24)).cell? ⟨w.heap.size, 1, none⟩ = some (.slice A n c) ∧ (w.alloc (.cells #[.bool l, .slice A n c, .slice B m d] 24)).cell? ⟨w.heap.size, 2, none⟩ = some (.slice B m d) := ⟨by simp, by simp, by simp⟩
theorem rises_ext {ks : List UInt64} {i : Nat} (hi : i < ks.length) (h : Rises (ks.take i)) (ha : ∀ j (hj : j < i), (ks[j]'(by omega)).toNat < ks[i].toNat) : Rises (ks.take (i + 1)) := by
  rw [List.take_succ_eq_append_getElem hi]
  unfold Rises at *
  rw [List.pairwise_append]
  refine ⟨h, by simp, fun a hm b hb => ?_⟩
  simp at hb
  subst hb
  obtain ⟨j, hj, e⟩ := List.mem_iff_getElem.1 hm
  simp only [List.length_take] at hj
  rw [List.getElem_take] at e
  subst e
  exact ha j (by omega)
theorem rises_bad {ks : List UInt64} {i k : Nat} (hi : i < ks.length) (hk : k < i) (h : ¬ (ks[k]'(by omega)).toNat < ks[i].toNat) : ¬ Rises ks := by
  unfold Rises
  rw [List.pairwise_iff_getElem]
  exact fun hr => h (hr k i (by omega) hi hk)
theorem kids_ext {vs : List UInt64} {i : Nat} (hi : i < vs.length) (h : Kids (vs.take i)) (ha : ∀ j (hj : j < i), vs[j]'(by omega) ≠ vs[i]) (h1 : 1 ≤ vs[i].toNat) (h2 : vs[i].toNat < 4096) : Kids (vs.take (i + 1)) :=
  kids_take_succ hi h h1 h2 (fun hm => by
    obtain ⟨j, hj, e⟩ := List.mem_iff_getElem.1 hm
    simp only [List.length_take] at hj
    rw [List.getElem_take] at e
    exact ha j (by omega) e)
theorem kids_twice {vs : List UInt64} {i k : Nat} (hi : i < vs.length) (hk : k < i) (h : vs[k]'(by omega) = vs[i]) : ¬ Kids vs := fun hK => by
  have hn := hK.2
  unfold List.Nodup at hn
  rw [List.pairwise_iff_getElem] at hn
  exact hn k i (by omega) hi hk h

/-- What the outer loop knows, what the inner one knows. -/
def OutN (l : Bool) (ks vs : List UInt64) (i : Nat) : Prop := Rises (ks.take i) ∧ (l = false → Kids (vs.take i))
def InnN (l : Bool) (ks vs : List UInt64) (i k : Nat) : Prop := ∀ j, j < k → ∃ a b c d, ks[j]? = some a ∧ ks[i]? = some b ∧ vs[j]? = some c ∧ vs[i]? = some d ∧ a.toNat < b.toNat ∧ (l = false → c ≠ d)
theorem InnN.next {l : Bool} {ks vs : List UInt64} {i k : Nat} (h : InnN l ks vs i k) {a b c d : UInt64} (ha : ks[k]? = some a) (hb : ks[i]? = some b) (hc : vs[k]? = some c) (hd : vs[i]? = some d) (h1 : a.toNat < b.toNat) (h2 : l = false → c ≠ d) : InnN l ks vs i (k + 1) := fun j hj => by
  by_cases e : j = k
  · subst e; exact ⟨a, b, c, d, ha, hb, hc, hd, h1, h2⟩
  · exact h j (by omega)
theorem InnN.done {l : Bool} {ks vs : List UInt64} {i : Nat} (hi : i < ks.length) (hv : i < vs.length) (ho : OutN l ks vs i) (h : InnN l ks vs i i) (hk : l = false → 1 ≤ (vs[i]'hv).toNat ∧ (vs[i]'hv).toNat < 4096) : OutN l ks vs (i + 1) := by
  refine ⟨rises_ext hi ho.1 fun j hj => ?_, fun hl => kids_ext hv (ho.2 hl) (fun j hj => ?_) (hk hl).1 (hk hl).2⟩
  · obtain ⟨a, b, c, d, h1, h2, h3, h4, h5, h6⟩ := h j hj
    rw [List.getElem?_eq_getElem (by omega)] at h1
    rw [List.getElem?_eq_getElem hi] at h2
    have e1 := Option.some.inj h1
    have e2 := Option.some.inj h2
    rw [e1, e2]
    exact h5
  · obtain ⟨a, b, c, d, h1, h2, h3, h4, h5, h6⟩ := h j hj
    rw [List.getElem?_eq_getElem (by omega)] at h3
    rw [List.getElem?_eq_getElem hv] at h4
    have e1 := Option.some.inj h3
    have e2 := Option.some.inj h4
    rw [e1, e2]
    exact h6 hl

theorem fit_out {l : Bool} {ks vs : List UInt64} (h7 : ks.length ≤ 7) (hv : vs.length = ks.length) (h0 : l = true ∨ 0 < ks.length) (h : OutN l ks vs ks.length) : Fit l ks vs := by
  have h1 := h.1
  rw [List.take_length] at h1
  refine ⟨h7, hv, h1, ?_⟩
  cases l with
  | true => exact .inl rfl
  | false =>
    have h2 := h.2 rfl
    rw [← hv, List.take_length] at h2
    exact .inr ⟨by rcases h0 with h | h; cases h; exact h, h2⟩
theorem fit_rises {l : Bool} {ks vs : List UInt64} (h : ¬ Rises ks) : ¬ Fit l ks vs := fun hf => h hf.2.2.1
theorem fit_kids {ks vs : List UInt64} (h : ¬ Kids vs) : ¬ Fit false ks vs := fun hf => by
  rcases hf.2.2.2 with hh | hh
  · cases hh
  · exact h hh.2

set_option maxRecDepth 100000 in
set_option maxHeartbeats 2000000 in
theorem rright_leaf {w : World} {A B : Option Addr} {n c m d : Nat} {ks vs : List UInt64} (h : Nd w A n c B m d ks vs) (hn7 : n ≤ 7) (hmn : m = n) :
    Calls Try.prog 19 #[.agg #[.bool true, .slice A n c, .slice B m d]] w fun e w' => e = .returned (.bool (decide (Fit true ks vs))) ∧ Below w.heap.size w w' := by
  subst hmn
  have HD := Lib.hid (h.boxed (.cells #[.bool true, .slice A m c, .slice B m d] 24))
  have BB := Lib.hid ((Below.refl w.heap.size w).alloc (Nat.le_refl _) (.cells #[.bool true, .slice A m c, .slice B m d] 24))
  have BX := Lib.hid (var_new' w true A m c B m d)
  have hmm : ((m : Int) != (m : Int)) = false := by simp
  clear h
  by_cases h0 : m = 0
  · subst h0
    have hz0 : ks = [] := List.eq_nil_of_length_eq_zero HD.out.kl
    have hv0 : vs = [] := List.eq_nil_of_length_eq_zero HD.out.vl
    subst hz0 hv0
    go_enter Try.func19, Try.ntmps19
    go_wp2_with fail
    refine wp_loop_rounds 1 ?_
    rw [rounds_succ]
    go_wp2_with fail
    go_ret
    exact ⟨by rw [decide_eq_true (show Fit true [] [] by decide)]; rfl, BB.out⟩
  have hmz : ((m : Int) == 0) = false := by rw [beq_eq_false_iff_ne]; omega
  go_enter Try.func19, Try.ntmps19
  go_upto_region 4 with (fail)
  all_goals
    generalize w.alloc (.cells #[.bool true, .slice A m c, .slice B m d] 24) = w1 at *
    go_wp2_with fail
    go_loopw [4] (fun i wr => ∃ z : Nat, z ≤ m ∧ i = .int .i64 (z : Int) ∧ Hid (OutN true ks vs z) ∧ Hid (Still w1 wr)) (fun i _ => m - (intOf i).toNat)
    case atStart => exact ⟨0, Nat.zero_le _, rfl, Lib.hid ⟨by simp [Rises], fun h => by cases h⟩, Lib.hid ⟨rfl, rfl, rfl, rfl⟩⟩
    case round =>
      obtain ⟨z, hz, rfl, HO, HS⟩ := hrel
      by_cases hlt : z < m
      · obtain ⟨wo, hwo⟩ : ∃ x, x = wr := ⟨_, rfl⟩
        subst hwo
        go_wp2_with fail
        go_loopw [5] (fun i wr => ∃ y : Nat, y ≤ z ∧ i = .int .i64 (y : Int) ∧ Hid (InnN true ks vs z y) ∧ Hid (Still w1 wr)) (fun i _ => z - (intOf i).toNat)
        case atStart => exact ⟨0, Nat.zero_le _, rfl, Lib.hid (fun j hj => by omega), HS⟩
        case round =>
          obtain ⟨y, hy, rfl, HI, HT⟩ := hrel
          by_cases hly : y < z
          · obtain ⟨b, o, rfl, hH⟩ := HD.out.ks.has (by rw [HD.out.kl]; omega)
            have hky : y < ks.length := by rw [HD.out.kl]; omega
            have hkz : z < ks.length := by rw [HD.out.kl]; omega
            have hvy : y < vs.length := by rw [HD.out.vl]; omega
            have hvz : z < vs.length := by rw [HD.out.vl]; omega
            have ky := (HT.out.cell _).trans (hH y hky)
            have kz := (HT.out.cell _).trans (hH z hkz)
            have e0 := (HT.out.cell _).trans BX.out.1
            have e1 := (HT.out.cell _).trans BX.out.2.1
            have HIN := Lib.hid (fun h1 => InnN.next HI.out (List.getElem?_eq_getElem hky) (List.getElem?_eq_getElem hkz) (List.getElem?_eq_getElem hvy) (List.getElem?_eq_getElem hvz) h1 (fun h => by cases h))
            have HBD := Lib.hid (fun h1 => rises_bad hkz hly h1)
            generalize ks[y]'hky = a at ky HIN HBD
            generalize ks[z]'hkz = b' at kz HIN HBD
            have i1 : (y : Int) < (m : Int) := by omega
            have i2 : (z : Int) < (m : Int) := by omega
            clear hH
            by_cases hab : a.toNat < b'.toNat
            · have hd : decide (b'.toNat ≤ a.toNat) = false := by rw [decide_eq_false_iff_not]; omega
              have HNX := Lib.hid (HIN.out hab)
              clear HIN HBD
              go_wp2_with fail
              go_quiet (fail)
              go_wp2_with fail
              go_roundw
              case rel => exact ⟨y + 1, by omega, by go_num, Lib.hid HNX.out, Lib.hid ⟨HT.out.os, HT.out.tape, HT.out.output, HT.out.heap⟩⟩
              case measure => simp [intOf]; omega
            · have hd : decide (b'.toNat ≤ a.toNat) = true := by rw [decide_eq_true_iff]; omega
              have HFF := Lib.hid (fit_rises (l := true) (vs := vs) (HBD.out hab))
              clear HIN HBD
              go_wp2_with fail
              go_quiet (fail)
              go_wp2_with fail
              go_ret
              exact ⟨by rw [decide_eq_false HFF.out]; rfl, BB.out.trans ((HT.out.below _).trans ((Still.drewN _ _).below _))⟩
          · obtain rfl : y = z := by omega
            have e0 := (HT.out.cell _).trans BX.out.1
            have HNO := Lib.hid (InnN.done (by rw [HD.out.kl]; exact hlt) (by rw [HD.out.vl]; exact hlt) HO.out HI.out (fun h => by cases h))
            go_wp2_with fail
            go_roundw
            case rel => exact ⟨y + 1, by omega, by go_num, Lib.hid HNO.out, HT⟩
            case measure => simp [intOf]; omega
      · obtain rfl : z = m := by omega
        go_wp2_with fail
        go_ret
        exact ⟨by rw [decide_eq_true (fit_out (by rw [HD.out.kl]; exact hn7) (by rw [HD.out.kl, HD.out.vl]) (.inl rfl) (by rw [HD.out.kl]; exact HO.out))]; rfl, BB.out.trans (HS.out.below _)⟩
set_option maxRecDepth 100000 in
set_option maxHeartbeats 2000000 in
theorem rright_inner {w : World} {A B : Option Addr} {n c m d : Nat} {ks vs : List UInt64} (h : Nd w A n c B m d ks vs) (hn7 : n ≤ 7) (hmn : m = n) :
    Calls Try.prog 19 #[.agg #[.bool false, .slice A n c, .slice B m d]] w fun e w' => e = .returned (.bool (decide (Fit false ks vs))) ∧ Below w.heap.size w w' := by
  subst hmn
  have HD := Lib.hid (h.boxed (.cells #[.bool false, .slice A m c, .slice B m d] 24))
  have BB := Lib.hid ((Below.refl w.heap.size w).alloc (Nat.le_refl _) (.cells #[.bool false, .slice A m c, .slice B m d] 24))
  have BX := Lib.hid (var_new' w false A m c B m d)
  have hmm : ((m : Int) != (m : Int)) = false := by simp
  clear h
  by_cases h0 : m = 0
  · subst h0
    have hz0 : ks = [] := List.eq_nil_of_length_eq_zero HD.out.kl
    have hv0 : vs = [] := List.eq_nil_of_length_eq_zero HD.out.vl
    subst hz0 hv0
    go_enter Try.func19, Try.ntmps19
    go_wp2_with fail
    go_ret
    exact ⟨by rw [decide_eq_false (fit_bare (by simp))]; rfl, BB.out⟩
  have hmz : ((m : Int) == 0) = false := by rw [beq_eq_false_iff_ne]; omega
  go_enter Try.func19, Try.ntmps19
  go_upto_region 4 with (fail)
  all_goals
    generalize w.alloc (.cells #[.bool false, .slice A m c, .slice B m d] 24) = w1 at *
    go_wp2_with fail
    go_loopw [4] (fun i wr => ∃ z : Nat, z ≤ m ∧ i = .int .i64 (z : Int) ∧ Hid (OutN false ks vs z) ∧ Hid (Still w1 wr)) (fun i _ => m - (intOf i).toNat)
    case atStart => exact ⟨0, Nat.zero_le _, rfl, Lib.hid ⟨by simp [Rises], fun _ => ⟨fun v hv => by simp at hv, by simp⟩⟩, Lib.hid ⟨rfl, rfl, rfl, rfl⟩⟩
    case round =>
      obtain ⟨z, hz, rfl, HO, HS⟩ := hrel
      by_cases hlt : z < m
      · obtain ⟨wo, hwo⟩ : ∃ x, x = wr := ⟨_, rfl⟩
        subst hwo
        go_wp2_with fail
        go_loopw [5] (fun i wr => ∃ y : Nat, y ≤ z ∧ i = .int .i64 (y : Int) ∧ Hid (InnN false ks vs z y) ∧ Hid (Still w1 wr)) (fun i _ => z - (intOf i).toNat)
        case atStart => exact ⟨0, Nat.zero_le _, rfl, Lib.hid (fun j hj => by omega), HS⟩
        case round =>
          obtain ⟨y, hy, rfl, HI, HT⟩ := hrel
          by_cases hly : y < z
          · obtain ⟨b, o, rfl, hH⟩ := HD.out.ks.has (by rw [HD.out.kl]; omega)
            have hky : y < ks.length := by rw [HD.out.kl]; omega
            have hkz : z < ks.length := by rw [HD.out.kl]; omega
            have hvy : y < vs.length := by rw [HD.out.vl]; omega
            have hvz : z < vs.length := by rw [HD.out.vl]; omega
            have ky := (HT.out.cell _).trans (hH y hky)
            have kz := (HT.out.cell _).trans (hH z hkz)
            have e0 := (HT.out.cell _).trans BX.out.1
            have e1 := (HT.out.cell _).trans BX.out.2.1
            obtain ⟨b2, o2, rfl, hH2⟩ := HD.out.vs.has (by rw [HD.out.vl]; omega)
            have vy := (HT.out.cell _).trans (hH2 y hvy)
            have vz := (HT.out.cell _).trans (hH2 z hvz)
            have e2 := (HT.out.cell _).trans BX.out.2.2
            have HIN := Lib.hid (fun h1 h2 => InnN.next (l := false) HI.out (List.getElem?_eq_getElem hky) (List.getElem?_eq_getElem hkz) (List.getElem?_eq_getElem hvy) (List.getElem?_eq_getElem hvz) h1 (fun _ => h2))
            have HKT := Lib.hid (fun h1 => kids_twice hvz hly h1)
            generalize vs[y]'hvy = c' at vy HIN HKT
            generalize vs[z]'hvz = d' at vz HIN HKT
            clear hH2
            have HBD := Lib.hid (fun h1 => rises_bad hkz hly h1)
            generalize ks[y]'hky = a at ky HIN HBD
            generalize ks[z]'hkz = b' at kz HIN HBD
            have i1 : (y : Int) < (m : Int) := by omega
            have i2 : (z : Int) < (m : Int) := by omega
            clear hH
            by_cases hab : a.toNat < b'.toNat
            · have hd : decide (b'.toNat ≤ a.toNat) = false := by rw [decide_eq_false_iff_not]; omega
              by_cases hcd : c' = d'
              · have HFF := Lib.hid (fit_kids (ks := ks) (HKT.out hcd))
                subst hcd
                have hcc : ((c'.toNat : Int) == (c'.toNat : Int)) = true := by simp
                clear HIN HBD HKT
                go_wp2_with fail
                go_quiet (fail)
                go_wp2_with fail
                go_ret
                exact ⟨by rw [decide_eq_false HFF.out]; rfl, BB.out.trans ((HT.out.below _).trans ((Still.drewN _ _).below _))⟩
              · have hcc := int_ne_of hcd
                have HNX := Lib.hid (HIN.out hab hcd)
                clear HIN HBD HKT hcd
                go_wp2_with fail
                go_quiet (fail)
                go_wp2_with fail
                go_roundw
                case rel => exact ⟨y + 1, by omega, by go_num, Lib.hid HNX.out, Lib.hid ⟨HT.out.os, HT.out.tape, HT.out.output, HT.out.heap⟩⟩
                case measure => simp [intOf]; omega
            · have hd : decide (b'.toNat ≤ a.toNat) = true := by rw [decide_eq_true_iff]; omega
              have HFF := Lib.hid (fit_rises (l := false) (vs := vs) (HBD.out hab))
              clear HIN HBD HKT
              go_wp2_with fail
              go_quiet (fail)
              go_wp2_with fail
              go_ret
              exact ⟨by rw [decide_eq_false HFF.out]; rfl, BB.out.trans ((HT.out.below _).trans ((Still.drewN _ _).below _))⟩
          · obtain rfl : y = z := by omega
            have e0 := (HT.out.cell _).trans BX.out.1
            have e2 := (HT.out.cell _).trans BX.out.2.2
            have hvz : y < vs.length := by rw [HD.out.vl]; exact hlt
            obtain ⟨b2, o2, rfl, hH2⟩ := HD.out.vs.has (by rw [HD.out.vl]; omega)
            have vz := (HT.out.cell _).trans (hH2 y hvz)
            have HNO := Lib.hid (fun hk => InnN.done (l := false) (by rw [HD.out.kl]; exact hlt) hvz HO.out HI.out (fun _ => hk))
            have HKN := Lib.hid (fun hk => kids_not1 hvz hk)
            have hdl := u64_lt (vs[y]'hvz)
            generalize vs[y]'hvz = d' at vz HNO HKN hdl
            have i2 : (y : Int) < (m : Int) := by omega
            clear hH2
            by_cases h1 : 1 ≤ d'.toNat
            · by_cases h2 : d'.toNat < 4096
              · have HNX := Lib.hid (HNO.out ⟨h1, h2⟩)
                clear HNO HKN
                go_wp2_with fail
                go_roundw
                case rel => exact ⟨y + 1, by omega, by go_num, Lib.hid HNX.out, HT⟩
                case measure => simp [intOf]; omega
              · have HFF := Lib.hid (fit_kids (ks := ks) (HKN.out (fun h => h2 h.2)))
                clear HNO HKN
                go_wp2_with fail
                go_ret
                exact ⟨by rw [decide_eq_false HFF.out]; rfl, BB.out.trans (HT.out.below _)⟩
            · have HFF := Lib.hid (fit_kids (ks := ks) (HKN.out (fun h => h1 h.1)))
              clear HNO HKN
              go_wp2_with fail
              go_ret
              exact ⟨by rw [decide_eq_false HFF.out]; rfl, BB.out.trans (HT.out.below _)⟩
      · obtain rfl : z = m := by omega
        go_wp2_with fail
        go_ret
        exact ⟨by rw [decide_eq_true (fit_out (by rw [HD.out.kl]; exact hn7) (by rw [HD.out.kl, HD.out.vl]) (.inr (by rw [HD.out.kl]; omega)) (by rw [HD.out.kl]; exact HO.out))]; rfl, BB.out.trans (HS.out.below _)⟩

set_option maxRecDepth 100000 in
set_option maxHeartbeats 2000000 in
theorem rright_any (l : Bool) {w : World} {A B : Option Addr} {n c m d : Nat} {ks vs : List UInt64} (h : Nd w A n c B m d ks vs) (hn : n ≤ 1000) (hm : m ≤ 1000) :
    Calls Try.prog 19 #[.agg #[.bool l, .slice A n c, .slice B m d]] w fun e w' => e = .returned (.bool (decide (Fit l ks vs))) ∧ Below w.heap.size w w' := by
  by_cases h7 : n ≤ 7
  · by_cases hmn : m = n
    · cases l with
      | true => exact rright_leaf h h7 hmn
      | false => exact rright_inner h h7 hmn
    · have HFF := Lib.hid (show ¬ Fit l ks vs from fun hf => hmn (by have := hf.2.1; rw [h.kl, h.vl] at this; exact this))
      have BB := Lib.hid ((Below.refl w.heap.size w).alloc (Nat.le_refl _) (.cells #[.bool l, .slice A n c, .slice B m d] 24))
      have hmm : ((n : Int) != (m : Int)) = true := by rw [bne_iff_ne]; omega
      clear h
      go_enter Try.func19, Try.ntmps19
      go_wp2_with fail
      go_ret
      exact ⟨by rw [decide_eq_false HFF.out]; rfl, BB.out⟩
  · have HFF := Lib.hid (show ¬ Fit l ks vs from fun hf => h7 (by have := hf.1; rw [h.kl] at this; exact this))
    have BB := Lib.hid ((Below.refl w.heap.size w).alloc (Nat.le_refl _) (.cells #[.bool l, .slice A n c, .slice B m d] 24))
    clear h
    go_enter Try.func19, Try.ntmps19
    go_wp2_with fail
    go_ret
    exact ⟨by rw [decide_eq_false HFF.out]; rfl, BB.out⟩
end Go.Proofs.Ytelaconfjofciaa.Lf
