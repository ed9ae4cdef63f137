/- Contracts: slices.Index, slices.Contains of numbers; leaf's rising and kids; EqualNumbers and AgainNumbers. -/
import Derived.Test.YtngigpciipdogaaLfA
namespace Go.Proofs.Ytngigpciipdogaa.Lf
open Go.RowKit Go.Proofs.Ytngigpciipdogaa.Oct
set_option linter.unusedVariables false

def Rises (ks : List UInt64) : Prop := ks.Pairwise (fun a b => a.toNat < b.toNat)
instance (ks : List UInt64) : Decidable (Rises ks) := by unfold Rises; infer_instance
def Kids (vs : List UInt64) : Prop := (∀ v ∈ vs, 1 ≤ v.toNat ∧ v.toNat < 4096) ∧ vs.Nodup
instance (vs : List UInt64) : Decidable (Kids vs) := by unfold Kids; infer_instance

theorem rises_take_succ {ks : List UInt64} {k : Nat} (h0 : 0 < k) (hk : k < ks.length) (h : Rises (ks.take k)) (hl : (ks[k - 1]'(by omega)).toNat < (ks[k]'hk).toNat) : Rises (ks.take (k + 1)) := by
  unfold Rises at *
  rw [List.pairwise_iff_getElem] at *
  intro i j hi hj hij
  simp only [List.length_take] at hi hj
  simp only [List.getElem_take] at *
  by_cases hjk : j = k
  · subst hjk
    by_cases hik : i = j - 1
    · subst hik; exact hl
    · exact Nat.lt_trans (h i (j - 1) (by simp; omega) (by simp; omega) (by omega)) hl
  · exact h i j (by simp; omega) (by simp; omega) hij
theorem rises_not {ks : List UInt64} {k : Nat} (h0 : 0 < k) (hk : k < ks.length) (hl : ¬ (ks[k - 1]'(by omega)).toNat < (ks[k]'hk).toNat) : ¬ Rises ks := by
  unfold Rises
  rw [List.pairwise_iff_getElem]
  exact fun h => hl (h (k - 1) k (by omega) hk (by omega))

theorem kids_take_succ {vs : List UInt64} {k : Nat} (hk : k < vs.length) (h : Kids (vs.take k)) (h1 : 1 ≤ (vs[k]'hk).toNat) (h2 : (vs[k]'hk).toNat < 4096) (h3 : vs[k] ∉ vs.take k) : Kids (vs.take (k + 1)) := by
  rw [List.take_succ_eq_append_getElem hk]
  refine ⟨fun v hv => ?_, ?_⟩
  · rcases List.mem_append.1 hv with hv | hv
    · exact h.1 v hv
    · simp at hv; subst hv; exact ⟨h1, h2⟩
  · rw [List.nodup_append]
    refine ⟨h.2, by simp, fun a ha b hb e => ?_⟩
    simp at hb; subst hb; subst e; exact h3 ha
theorem kids_not1 {vs : List UInt64} {k : Nat} (hk : k < vs.length) (h : ¬ (1 ≤ (vs[k]'hk).toNat ∧ (vs[k]'hk).toNat < 4096)) : ¬ Kids vs := fun hK => h (hK.1 _ (List.getElem_mem hk))
theorem kids_not2 {vs : List UInt64} {k : Nat} (hk : k < vs.length) (h : vs[k] ∈ vs.take k) : ¬ Kids vs := fun hK => by
  have hn := hK.2
  obtain ⟨i, hi, e⟩ := List.mem_iff_getElem.1 h
  simp only [List.length_take] at hi
  rw [List.getElem_take] at e
  unfold List.Nodup at hn
  rw [List.pairwise_iff_getElem] at hn
  exact hn i k (by omega) hk (by omega) e

theorem int_ne_of {a b : UInt64} (h : a ≠ b) : ((a.toNat : Int) == (b.toNat : Int)) = false := by
  rw [beq_eq_false_iff_ne]
  intro e
  exact h (UInt64.toNat_inj.1 (by omega))

/-- slices.Index answers whether it is there. -/
theorem index_any (a : Option Addr) (len cap : Nat) (ns : List UInt64) (v : UInt64) (hlen : ns.length = len) (w : World) (hl : len ≤ 1000000) (hb : ToldN w a ns) :
    Calls Try.prog 25 #[.slice a len cap, .int .u64 (v.toNat : Int)] w fun e w' => (∃ i : Int, e = .returned (.int .i64 i) ∧ (0 ≤ i ↔ v ∈ ns) ∧ -1 ≤ i ∧ i ≤ 1000000) ∧ w = w' := by
  have HB := Lib.hid hb
  have HL := Lib.hid hlen
  clear hb hlen
  go_enter Try.func25, Try.ntmps25
  go_wp2_with fail
  go_loop [8] (fun i => ∃ k : Nat, k ≤ len ∧ i = .int .i64 (k : Int) ∧ Hid (v ∉ ns.take k)) (fun i => len - (intOf i).toNat)
  case atStart => exact ⟨0, Nat.zero_le _, rfl, Lib.hid (by simp)⟩
  case round =>
    obtain ⟨k, hk, rfl, HN⟩ := hrel
    by_cases hlt : k < len
    · have hkn : k < ns.length := by rw [HL.out]; exact hlt
      obtain ⟨b, o, rfl, hH⟩ := HB.out.has (by omega)
      have hc := hH k hkn
      have HV := Lib.hid (And.intro hkn (show ns[k]? = some ns[k] from List.getElem?_eq_getElem hkn))
      have HS := Lib.hid (show ns.take (k + 1) = ns.take k ++ [ns[k]] from List.take_succ_eq_append_getElem hkn)
      have HM := Lib.hid (List.getElem_mem hkn)
      generalize ns[k] = c at hc HV HS HM
      clear hH
      by_cases hvc : v = c
      · subst hvc
        go_wp2_with fail
        go_ret
        exact ⟨⟨_, rfl, ⟨fun _ => HM.out, fun _ => by omega⟩, by omega, by omega⟩, rfl⟩
      · have ht := int_ne_of hvc
        have HVC := Lib.hid hvc
        clear hvc
        go_wp2_with fail
        go_round
        case rel => exact ⟨k + 1, by omega, by go_num, Lib.hid (by rw [HS.out]; intro h; rcases List.mem_append.1 h with h | h; exact HN.out h; simp at h; exact HVC.out h)⟩
        case measure => simp [intOf]; omega
    · go_wp2_with fail
      go_ret
      refine ⟨⟨-1, rfl, ⟨fun h => by omega, fun h => ?_⟩, by omega, by omega⟩, rfl⟩
      have := HN.out
      rw [List.take_of_length_le (by rw [HL.out]; omega)] at this
      exact absurd h this

theorem contains_any (a : Option Addr) (len cap : Nat) (ns : List UInt64) (v : UInt64) (hlen : ns.length = len) (w : World) (hl : len ≤ 1000000) (hb : ToldN w a ns) :
    Calls Try.prog 13 #[.slice a len cap, .int .u64 (v.toNat : Int)] w fun e w' => e = .returned (.bool (decide (v ∈ ns))) ∧ w = w' := by
  have HB := Lib.hid hb
  have HL := Lib.hid hlen
  clear hb hlen
  go_enter Try.func13, Try.ntmps13
  go_wp2_with fail
  refine (index_any a len cap ns v HL.out _ hl HB.out).mono ?_
  rintro e w' ⟨⟨i, rfl, hi, h1, h2⟩, rfl⟩
  have HI := Lib.hid hi
  clear hi
  go_wp2_with fail
  go_ret
  refine ⟨?_, rfl⟩
  rw [← decide_eq_decide.2 HI.out]
  rfl

set_option maxHeartbeats 400000 in
theorem rising_any (a : Option Addr) (len cap : Nat) (ns : List UInt64) (hlen : ns.length = len) (w : World) (hl : len ≤ 1000000) (hb : ToldN w a ns) :
    Calls Try.prog 7 #[.slice a len cap] w fun e w' => e = .returned (.bool (decide (Rises ns))) ∧ Still w w' := by
  have HB := Lib.hid hb
  have HL := Lib.hid hlen
  clear hb hlen
  go_enter Try.func7, Try.ntmps7
  go_wp2_with fail
  go_loopw [3] (fun i wr => ∃ k : Nat, 1 ≤ k ∧ (k ≤ len ∨ k = 1) ∧ i = .int .i64 (k : Int) ∧ Hid (Rises (ns.take k)) ∧ Still w wr) (fun i _ => len - (intOf i).toNat)
  case atStart => exact ⟨1, Nat.le_refl _, .inr rfl, rfl, Lib.hid (by
      unfold Rises
      rw [List.pairwise_iff_getElem]
      intro i j hi hj hij
      simp only [List.length_take] at hi hj
      omega), ⟨rfl, rfl, rfl, rfl⟩⟩
  case round =>
    obtain ⟨k, hk1, hk, rfl, HN, HS⟩ := hrel
    by_cases hlt : k < len
    · have hkn : k < ns.length := by rw [HL.out]; exact hlt
      have hkn1 : k - 1 < ns.length := by omega
      obtain ⟨b, o, rfl, hH⟩ := HB.out.has (by omega)
      have hc := (HS.cell _).trans (hH k hkn)
      have hd := (HS.cell _).trans (hH (k - 1) hkn1)
      have H1 := Lib.hid (fun hl => rises_take_succ hk1 hkn HN.out hl)
      have H2 := Lib.hid (fun hl => rises_not hk1 hkn hl)
      have HSt := Lib.hid HS
      have hki : (k : Int) - 1 = ((k - 1 : Nat) : Int) := by omega
      have hcl := u64_lt ns[k]
      have hdl := u64_lt ns[k - 1]
      generalize ns[k] = c at hc H1 H2 hcl
      generalize ns[k - 1] = d at hd H1 H2 hdl
      clear hH HS HN
      by_cases hcd : d.toNat < c.toNat
      · go_wp2_with fail
        go_quiet (fail)
        go_wp2_with fail
        go_roundw
        case rel => exact ⟨k + 1, by omega, .inl (by omega), by go_num, Lib.hid (H1.out hcd), ⟨HSt.out.os, HSt.out.tape, HSt.out.output, HSt.out.heap⟩⟩
        case measure => simp [intOf]; omega
      · go_wp2_with fail
        go_quiet (fail)
        go_wp2_with fail
        go_ret
        exact ⟨by rw [decide_eq_false (H2.out hcd)]; rfl, ⟨HSt.out.os, HSt.out.tape, HSt.out.output, HSt.out.heap⟩⟩
    · have HSt := Lib.hid HS
      clear HS
      go_wp2_with fail
      go_ret
      have := HN.out
      rw [List.take_of_length_le (by rw [HL.out]; omega)] at this
      exact ⟨by rw [decide_eq_true this]; rfl, HSt.out⟩

set_option maxRecDepth 100000 in
set_option maxHeartbeats 400000 in
theorem kids_any (a : Option Addr) (len cap : Nat) (ns : List UInt64) (hlen : ns.length = len) (hcap : len ≤ cap) (hm : cap ≤ maxLen) (w : World) (hl : len ≤ 1000000) (hb : ToldN w a ns) :
    Calls Try.prog 8 #[.slice a len cap] w fun e w' => e = .returned (.bool (decide (Kids ns))) ∧ w = w' := by
  have HB := Lib.hid hb
  have HL := Lib.hid hlen
  clear hb hlen
  unfold maxLen at hm
  go_enter Try.func8, Try.ntmps8
  go_wp2_with fail
  go_loop [7] (fun i => ∃ k : Nat, k ≤ len ∧ i = .int .i64 (k : Int) ∧ Hid (Kids (ns.take k))) (fun i => len - (intOf i).toNat)
  case atStart => exact ⟨0, Nat.zero_le _, rfl, Lib.hid ⟨fun v hv => by simp at hv, by simp⟩⟩
  case round =>
    obtain ⟨k, hk, rfl, HN⟩ := hrel
    by_cases hlt : k < len
    · have hkn : k < ns.length := by rw [HL.out]; exact hlt
      obtain ⟨b, o, rfl, hH⟩ := HB.out.has (by omega)
      have hc := hH k hkn
      have hP := Lib.hid ((hH.pre k).told)
      have hPl := Lib.hid (show (ns.take k).length = k by simp; omega)
      have H1 := Lib.hid (fun a b c => kids_take_succ hkn HN.out a b c)
      have H2 := Lib.hid (fun h => kids_not1 hkn h)
      have H3 := Lib.hid (fun h => kids_not2 hkn h)
      have hcl := u64_lt ns[k]
      generalize ns[k] = c at hc H1 H2 H3 hcl
      clear hH HN
      by_cases h1 : 1 ≤ c.toNat
      · by_cases h2 : c.toNat < 4096
        · go_wp2_with fail
          refine (contains_any _ k cap (ns.take k) c hPl.out _ (by omega) hP.out).mono ?_
          rintro e w' ⟨rfl, rfl⟩
          by_cases h3 : c ∈ ns.take k
          · rw [decide_eq_true h3]
            go_wp2_with fail
            go_ret
            exact ⟨by rw [decide_eq_false (H3.out h3)]; rfl, rfl⟩
          · rw [decide_eq_false h3]
            have H4 := Lib.hid (H1.out h1 h2 h3)
            clear h3
            go_wp2_with fail
            go_round
            case rel => exact ⟨k + 1, by omega, by go_num, H4⟩
            case measure => simp [intOf]; omega
        · have H4 := Lib.hid (H2.out (fun h => h2 h.2))
          go_wp2_with fail
          go_ret
          exact ⟨by rw [decide_eq_false H4.out]; rfl, rfl⟩
      · have H4 := Lib.hid (H2.out (fun h => h1 h.1))
        go_wp2_with fail
        go_ret
        exact ⟨by rw [decide_eq_false H4.out]; rfl, rfl⟩
    · go_wp2_with fail
      go_ret
      have := HN.out
      rw [List.take_of_length_le (by rw [HL.out]; omega)] at this
      exact ⟨by rw [decide_eq_true this]; rfl, rfl⟩

theorem eqn_drop {xs ys : List UInt64} {k : Nat} (hx : k < xs.length) (hy : k < ys.length) (h : xs.drop (k + 1) = ys.drop (k + 1)) (e : xs[k] = ys[k]) : xs.drop k = ys.drop k := by
  rw [List.drop_eq_getElem_cons hx, List.drop_eq_getElem_cons hy, e, h]

set_option maxHeartbeats 400000 in
theorem eqnums_any (a c : Option Addr) (len len' cap cap' : Nat) (xs ys : List UInt64) (hx' : xs.length = len) (hy' : ys.length = len') (w : World) (hl : len ≤ 1000000) (hl' : len' ≤ maxLen) (hx : ToldN w a xs) (hy : ToldN w c ys) :
    Calls Try.prog 24 #[.slice a len cap, .slice c len' cap'] w fun e w' => e = .returned (.bool (decide (xs = ys))) ∧ Still w w' := by
  by_cases hll : len = len'
  · subst hll
    have HX := Lib.hid hx
    have HY := Lib.hid hy
    have HXL := Lib.hid hx'
    have HYL := Lib.hid hy'
    clear hx hy hx' hy'
    have hnn : ((len : Int) != (len : Int)) = false := by simp
    go_enter Try.func24, Try.ntmps24
    go_wp2_with fail
    go_loopw [5] (fun i wr => ∃ k : Nat, k ≤ len ∧ i = .int .i64 (k : Int) ∧ Hid (xs.drop k = ys.drop k) ∧ Still w wr) (fun i _ => (intOf i).toNat)
    case atStart => exact ⟨len, Nat.le_refl _, rfl, Lib.hid (by rw [List.drop_of_length_le (by rw [HXL.out]; exact Nat.le_refl _), List.drop_of_length_le (by rw [HYL.out]; exact Nat.le_refl _)]), ⟨rfl, rfl, rfl, rfl⟩⟩
    case round =>
      obtain ⟨k, hk, rfl, HN, HS⟩ := hrel
      by_cases h0 : 0 < k
      · have hkx : k - 1 < xs.length := by rw [HXL.out]; omega
        have hky : k - 1 < ys.length := by rw [HYL.out]; omega
        obtain ⟨b, o, rfl, hH⟩ := HX.out.has (by omega)
        obtain ⟨b2, o2, rfl, hH2⟩ := HY.out.has (by omega)
        have hc := (HS.cell _).trans (hH (k - 1) hkx)
        have hd := (HS.cell _).trans (hH2 (k - 1) hky)
        have H1 := Lib.hid (fun e => eqn_drop hkx hky (by rw [show k - 1 + 1 = k by omega]; exact HN.out) e)
        have H2 := Lib.hid (show xs[k - 1] ≠ ys[k - 1] → xs ≠ ys from fun h e => h (by subst e; rfl))
        have hki : (k : Int) - 1 = ((k - 1 : Nat) : Int) := by omega
        generalize xs[k - 1] = x at hc H1 H2
        generalize ys[k - 1] = y at hd H1 H2
        have HSt := Lib.hid HS
        clear hH hH2 HN HS
        by_cases hxy : x = y
        · subst hxy
          have hnx : ((x.toNat : Int) != (x.toNat : Int)) = false := by simp
          have H5 := Lib.hid (H1.out rfl)
          clear H1
          go_wp2_with fail
          go_quiet (fail)
          go_wp2_with fail
          go_roundw
          case rel => exact ⟨k - 1, by omega, rfl, H5, ⟨HSt.out.os, HSt.out.tape, HSt.out.output, HSt.out.heap⟩⟩
          case measure => simp [intOf]; omega
        · have hnx : ((x.toNat : Int) != (y.toNat : Int)) = true := by rw [bne_iff_ne]; intro e; exact hxy (UInt64.toNat_inj.1 (by omega))
          have H3 := Lib.hid (H2.out hxy)
          clear hxy
          go_wp2_with fail
          go_quiet (fail)
          go_wp2_with fail
          go_ret
          exact ⟨by rw [decide_eq_false H3.out]; rfl, ⟨HSt.out.os, HSt.out.tape, HSt.out.output, HSt.out.heap⟩⟩
      · obtain rfl : k = 0 := by omega
        have HSt := Lib.hid HS
        clear HS
        go_wp2_with fail
        go_ret
        have := HN.out
        rw [List.drop_zero, List.drop_zero] at this
        exact ⟨by rw [decide_eq_true this]; rfl, HSt.out⟩
  · have hne : xs ≠ ys := fun e => hll (by rw [← hx', ← hy', e])
    have HNE := Lib.hid hne
    have hnn : ((len : Int) != (len' : Int)) = true := by rw [bne_iff_ne]; omega
    clear hx hy hx' hy' hne hll
    go_enter Try.func24, Try.ntmps24
    go_wp2_with fail
    go_ret
    exact ⟨by rw [decide_eq_false HNE.out]; rfl, ⟨rfl, rfl, rfl, rfl⟩⟩

/-- New numbers: block g, from its head on; nothing that was there has turned. -/
structure FreshN (w w' : World) (g : Nat) (ns : List UInt64) : Prop where
  below : Below w.heap.size w w'
  lo : w.heap.size ≤ g
  hi : g < w'.heap.size
  row : RowN w' g 28 ns

theorem againn_any (a : Option Addr) (len cap : Nat) (ns : List UInt64) (hlen : ns.length = len) (w : World) (hl : len ≤ 1000000) (hb : ToldN w a ns) :
    Calls Try.prog 6 #[.slice a len cap] w fun e w' => ∃ g, e = .returned (.slice (some ⟨g, 0, none⟩) len len) ∧ FreshN w w' g ns := by
  have hmk := run_make_nums w .i64 len hl
  have R1 := alloc_rowN w 28 (List.replicate len 0)
  have B1 := (Below.refl w.heap.size w).alloc (Nat.le_refl _) (.cells (nvals (List.replicate len 0)).toArray 28)
  have T1 := hb.below B1
  generalize w.alloc (.cells (nvals (List.replicate len 0)).toArray 28) = w1 at hmk R1 B1 T1
  obtain ⟨g, hg⟩ : ∃ g, g = w.heap.size := ⟨_, rfl⟩
  rw [← hg] at hmk R1
  have HG := Lib.hid hg
  clear hg hb
  obtain ⟨w2, hcopy, R2, B2, _, hsz⟩ := run_copy_nums w1 3 28 g 0 len len _ ns R1 a len cap hlen T1 (Nat.le_refl _) (by simp)
  have R3 : RowN w2 g 28 ns := by
    have : splice (List.replicate len 0) 0 ns = ns := splice_all _ _ (by simp [hlen])
    rwa [this] at R2
  have HR := Lib.hid R3
  have HBB := Lib.hid (B1.trans (B2.mono (by rw [HG.out]; exact Nat.le_refl _)))
  clear R1 B1 T1 R2 B2 R3 hlen
  go_enter Try.func6, Try.ntmps6
  go_wp2_with fail
  go_ret
  exact ⟨g, rfl, HBB.out, by rw [HG.out]; exact Nat.le_refl _, HR.out.lt, HR.out⟩
end Go.Proofs.Ytngigpciipdogaa.Lf
