/- Layer 12: contracts of rising, Right; of numbers and Same, catchmentlaw12's own. -/
import Derived.Test.YtllopocekegljaaNoA
namespace Go.Proofs.Ytllopocekegljaa.No
open Go.RowKit Go.Proofs.Ytllopocekegljaa.Oct Go.Proofs.Ytllopocekegljaa.Lf
set_option linter.unusedVariables false

set_option maxHeartbeats 400000 in
theorem rising_any (a : Option Addr) (len cap : Nat) (ns : List UInt64) (hlen : ns.length = len) (w : World) (hl : len ≤ 1000000) (hb : ToldN w a ns) :
    Calls Try.prog 31 #[.slice a len cap] w fun e w' => e = .returned (.bool (decide (Rises ns))) ∧ Still w w' := by
  have HB := Lib.hid hb
  have HL := Lib.hid hlen
  clear hb hlen
  go_enter Try.func31, Try.ntmps31
  go_wp2_with fail
  go_loopw [3] (fun i wr => ∃ k : Nat, 1 ≤ k ∧ (k ≤ len ∨ k = 1) ∧ i = .int .i64 (k : Int) ∧ Hid (Rises (ns.take k)) ∧ Still w wr) (fun i _ => len - (intOf i).toNat)
  case atStart => exact ⟨1, Nat.le_refl _, .inr rfl, rfl, Lib.hid (by
      unfold Rises
      rw [List.pairwise_iff_getElem]
      intro i j hi hj hij
      simp only [List.length_take] at hi hj
      omega), ⟨rfl, rfl, rfl, rfl⟩⟩
  case round =>
    obtain ⟨k, hk1, hk, rfl, HN, HS⟩ := hrel
    by_cases hlt : k < len
    · have hkn : k < ns.length := by rw [HL.out]; exact hlt
      have hkn1 : k - 1 < ns.length := by omega
      obtain ⟨b, o, rfl, hH⟩ := HB.out.has (by omega)
      have hc := (HS.cell _).trans (hH k hkn)
      have hd := (HS.cell _).trans (hH (k - 1) hkn1)
      have H1 := Lib.hid (fun hl => rises_take_succ hk1 hkn HN.out hl)
      have H2 := Lib.hid (fun hl => rises_not hk1 hkn hl)
      have HSt := Lib.hid HS
      have hki : (k : Int) - 1 = ((k - 1 : Nat) : Int) := by omega
      have hcl := u64_lt ns[k]
      have hdl := u64_lt ns[k - 1]
      generalize ns[k] = c at hc H1 H2 hcl
      generalize ns[k - 1] = d at hd H1 H2 hdl
      clear hH HS HN
      by_cases hcd : d.toNat < c.toNat
      · go_wp2_with fail
        go_quiet (fail)
        go_wp2_with fail
        go_roundw
        case rel => exact ⟨k + 1, by omega, .inl (by omega), by go_num, Lib.hid (H1.out hcd), ⟨HSt.out.os, HSt.out.tape, HSt.out.output, HSt.out.heap⟩⟩
        case measure => simp [intOf]; omega
      · go_wp2_with fail
        go_quiet (fail)
        go_wp2_with fail
        go_ret
        exact ⟨by rw [decide_eq_false (H2.out hcd)]; rfl, ⟨HSt.out.os, HSt.out.tape, HSt.out.output, HSt.out.heap⟩⟩
    · have HSt := Lib.hid HS
      clear HS
      go_wp2_with fail
      go_ret
      have := HN.out
      rw [List.take_of_length_le (by rw [HL.out]; omega)] at this
      exact ⟨by rw [decide_eq_true this]; rfl, HSt.out⟩

theorem ok_leaf {ks vs : List UInt64} (h1 : ks.length ≤ 7) (h2 : vs.length = ks.length) (h3 : Rises ks) : Ok true ks vs := ⟨h1, h2, h3, .inl rfl⟩
theorem ok_bare {ks vs : List UInt64} (h4 : ¬ 0 < ks.length) : ¬ Ok false ks vs := fun h => by
  rcases h.2.2.2 with h | h
  · cases h
  · exact h4 h

/-- A node as a value. -/
abbrev nv (l : Bool) (A : Option Addr) (n c : Nat) (B : Option Addr) (m d : Nat) : Value := .agg #[.bool l, .slice A n c, .slice B m d]

set_option maxRecDepth 100000 in
set_option maxHeartbeats 800000 in
theorem right_any (l : Bool) {w : World} {A B : Option Addr} {n c m d : Nat} {ks vs : List UInt64} (h : Nd w A n c B m d ks vs) :
    Calls Try.prog 12 #[.agg #[.bool l, .slice A n c, .slice B m d]] w fun e w' => e = .returned (.bool (decide (Ok l ks vs))) ∧ Below w.heap.size w w' := by
  have HD := Lib.hid h
  have hnk : ks.length = n := h.kl
  have hvk : vs.length = m := h.vl
  have HF := Lib.hid (show Ok l ks vs ↔ (n ≤ 7 ∧ m = n ∧ Rises ks ∧ (l = true ∨ 0 < n)) by unfold Ok; rw [hnk, hvk])
  have hn63 := Nat.le_trans h.kc h.km
  have hm63 := Nat.le_trans h.vc h.vm
  unfold maxLen at hn63 hm63
  clear h hnk hvk
  have HB1 := Lib.hid (HD.out.boxed (.cells #[.bool l, .slice A n c, .slice B m d] 24))
  have BB := Lib.hid ((Below.refl w.heap.size w).alloc (Nat.le_refl _) (.cells #[.bool l, .slice A n c, .slice B m d] 24))
  by_cases h1 : n ≤ 7
  · by_cases h2 : m = n
    · subst h2
      have hmm : ((m : Int) != (m : Int)) = false := by simp
      go_enter Try.func12, Try.ntmps12
      go_wp2_with fail
      refine (rising_any A m c ks HD.out.kl _ (by omega) HB1.out.ks).mono ?_
      rintro e w2 ⟨rfl, S2⟩
      by_cases h3 : Rises ks
      · rw [decide_eq_true h3]
        have e0 := (S2.cell ⟨w.heap.size, 0, none⟩).trans (box_cell w _ _ 0 _ rfl)
        have e1 := (S2.cell ⟨w.heap.size, 1, none⟩).trans (box_cell w _ _ 1 _ rfl)
        have BB2 := Lib.hid (BB.out.trans (S2.below _))
        clear S2
        cases l with
        | true =>
          go_wp2_with fail
          go_ret
          exact ⟨by rw [decide_eq_true (ok_leaf (by rw [HD.out.kl]; exact h1) (HD.out.vl.trans HD.out.kl.symm) h3)]; rfl, BB2.out⟩
        | false =>
          by_cases h4 : 0 < m
          · go_wp2_with fail
            go_ret
            exact ⟨by rw [decide_eq_true (show Ok false ks vs from ⟨by rw [HD.out.kl]; exact h1, HD.out.vl.trans HD.out.kl.symm, h3, .inr (by rw [HD.out.kl]; exact h4)⟩)]; rfl, BB2.out⟩
          · go_wp2_with fail
            go_ret
            exact ⟨by rw [decide_eq_false (ok_bare (by rw [HD.out.kl]; exact h4))]; rfl, BB2.out⟩
      · rw [decide_eq_false h3]
        go_wp2_with fail
        go_ret
        exact ⟨by rw [decide_eq_false (fun hf => h3 (HF.out.1 hf).2.2.1)]; rfl, BB.out.trans (S2.below _)⟩
    · have hmm : ((m : Int) != (n : Int)) = true := by rw [bne_iff_ne]; omega
      go_enter Try.func12, Try.ntmps12
      go_wp2_with fail
      go_ret
      exact ⟨by rw [decide_eq_false (fun hf => h2 (HF.out.1 hf).2.1)]; rfl, BB.out⟩
  · go_enter Try.func12, Try.ntmps12
    go_wp2_with fail
    go_ret
    exact ⟨by rw [decide_eq_false (fun hf => h1 (HF.out.1 hf).1)]; rfl, BB.out⟩

theorem eqn_take {xs ys : List UInt64} {k : Nat} (hx : k < xs.length) (hy : k < ys.length) (h : xs.take k = ys.take k) (e : xs[k] = ys[k]) : xs.take (k + 1) = ys.take (k + 1) := by
  rw [List.take_succ_eq_append_getElem hx, List.take_succ_eq_append_getElem hy, h, e]
set_option maxHeartbeats 400000 in
theorem numbers_any (a c : Option Addr) (len len' cap cap' : Nat) (xs ys : List UInt64) (hx' : xs.length = len) (hy' : ys.length = len') (w : World) (hl : len ≤ maxLen) (hl' : len' ≤ maxLen) (hx : ToldN w a xs) (hy : ToldN w c ys) :
    Calls Try.prog 25 #[.slice a len cap, .slice c len' cap'] w fun e w' => e = .returned (.bool (decide (xs = ys))) ∧ Still w w' := by
  unfold maxLen at hl hl'
  by_cases hll : len = len'
  · subst hll
    have HX := Lib.hid hx
    have HY := Lib.hid hy
    have HXL := Lib.hid hx'
    have HYL := Lib.hid hy'
    clear hx hy hx' hy'
    have hnn : ((len : Int) != (len : Int)) = false := by simp
    go_enter Try.func25, Try.ntmps25
    go_wp2_with fail
    go_loopw [13] (fun i wr => ∃ k : Nat, k ≤ len ∧ i = .int .i64 (k : Int) ∧ Hid (xs.take k = ys.take k) ∧ Still w wr) (fun i _ => len - (intOf i).toNat)
    case atStart => exact ⟨0, Nat.zero_le _, rfl, Lib.hid rfl, ⟨rfl, rfl, rfl, rfl⟩⟩
    case round =>
      obtain ⟨k, hk, rfl, HN, HS⟩ := hrel
      by_cases h0 : k < len
      · have hkx : k < xs.length := by rw [HXL.out]; omega
        have hky : k < ys.length := by rw [HYL.out]; omega
        obtain ⟨b, o, rfl, hH⟩ := HX.out.has (by omega)
        obtain ⟨b2, o2, rfl, hH2⟩ := HY.out.has (by omega)
        have hc := (HS.cell _).trans (hH k hkx)
        have hd := (HS.cell _).trans (hH2 k hky)
        have H1 := Lib.hid (fun e => eqn_take hkx hky HN.out e)
        have H2 := Lib.hid (show xs[k] ≠ ys[k] → xs ≠ ys from fun h e => h (by subst e; rfl))
        generalize xs[k] = x at hc H1 H2
        generalize ys[k] = y at hd H1 H2
        have HSt := Lib.hid HS
        clear hH hH2 HN HS
        by_cases hxy : x = y
        · subst hxy
          have hnx : ((x.toNat : Int) != (x.toNat : Int)) = false := by simp
          have H5 := Lib.hid (H1.out rfl)
          clear H1
          go_wp2_with fail
          go_quiet (fail)
          go_wp2_with fail
          go_roundw
          case rel => exact ⟨k + 1, by omega, by go_num, H5, ⟨HSt.out.os, HSt.out.tape, HSt.out.output, HSt.out.heap⟩⟩
          case measure => simp [intOf]; omega
        · have hnx : ((x.toNat : Int) != (y.toNat : Int)) = true := by rw [bne_iff_ne]; intro e; exact hxy (UInt64.toNat_inj.1 (by omega))
          have H3 := Lib.hid (H2.out hxy)
          clear hxy
          go_wp2_with fail
          go_quiet (fail)
          go_wp2_with fail
          go_ret
          exact ⟨by rw [decide_eq_false H3.out]; rfl, ⟨HSt.out.os, HSt.out.tape, HSt.out.output, HSt.out.heap⟩⟩
      · obtain rfl : k = len := by omega
        have HSt := Lib.hid HS
        clear HS
        go_wp2_with fail
        go_ret
        have := HN.out
        rw [List.take_of_length_le (by rw [HXL.out]; exact Nat.le_refl _), List.take_of_length_le (by rw [HYL.out]; exact Nat.le_refl _)] at this
        exact ⟨by rw [decide_eq_true this]; rfl, HSt.out⟩
  · have hne : xs ≠ ys := fun e => hll (by rw [← hx', ← hy', e])
    have HNE := Lib.hid hne
    have hnn : ((len : Int) != (len' : Int)) = true := by rw [bne_iff_ne]; omega
    clear hx hy hx' hy' hne hll
    go_enter Try.func25, Try.ntmps25
    go_wp2_with fail
    go_ret
    exact ⟨by rw [decide_eq_false HNE.out]; rfl, ⟨rfl, rfl, rfl, rfl⟩⟩

set_option maxRecDepth 100000 in
set_option maxHeartbeats 800000 in
theorem same_any (l l' : Bool) {w : World} {A B A' B' : Option Addr} {n c m d n' c' m' d' : Nat} {ks vs ks' vs' : List UInt64} (h : Nd w A n c B m d ks vs) (h' : Nd w A' n' c' B' m' d' ks' vs') :
    Calls Try.prog 16 #[.agg #[.bool l, .slice A n c, .slice B m d], .agg #[.bool l', .slice A' n' c', .slice B' m' d']] w fun e w' => e = .returned (.bool (decide (l = l' ∧ ks = ks' ∧ vs = vs'))) ∧ Below w.heap.size w w' := by
  have HD := Lib.hid h
  have HD' := Lib.hid h'
  clear h h'
  have HB1 := Lib.hid ((HD.out.boxed (.cells #[.bool l, .slice A n c, .slice B m d] 24)).boxed (.cells #[.bool l', .slice A' n' c', .slice B' m' d'] 24))
  have HB1' := Lib.hid ((HD'.out.boxed (.cells #[.bool l, .slice A n c, .slice B m d] 24)).boxed (.cells #[.bool l', .slice A' n' c', .slice B' m' d'] 24))
  have b1 := (Below.refl w.heap.size w).alloc (Nat.le_refl _) (.cells #[.bool l, .slice A n c, .slice B m d] 24)
  have BB := Lib.hid (b1.alloc b1.size (.cells #[.bool l', .slice A' n' c', .slice B' m' d'] 24))
  clear b1
  by_cases h1 : l = l'
  · subst h1
    have hll : (l == l) = true := by simp
    go_enter Try.func16, Try.ntmps16
    go_wp2_with fail
    refine (numbers_any A A' n n' c c' ks ks' HD.out.kl HD'.out.kl _ (Nat.le_trans HD.out.kc HD.out.km) (Nat.le_trans HD'.out.kc HD'.out.km) HB1.out.ks HB1'.out.ks).mono ?_
    rintro e w2 ⟨rfl, S2⟩
    have BB2 := Lib.hid (BB.out.trans (S2.below _))
    by_cases h2 : ks = ks'
    · rw [decide_eq_true h2]
      have H2 := Lib.hid h2
      clear h2
      have e1 : w2.cell? ⟨w.heap.size, 2, none⟩ = some (.slice B m d) := (S2.cell ⟨w.heap.size, 2, none⟩).trans (by simp)
      have e2 : w2.cell? ⟨w.heap.size + 1, 2, none⟩ = some (.slice B' m' d') := (S2.cell ⟨w.heap.size + 1, 2, none⟩).trans (by simp)
      have hV := Lib.hid (HB1.out.vs.still S2)
      have hV' := Lib.hid (HB1'.out.vs.still S2)
      clear S2
      go_wp2_with fail
      refine (numbers_any B B' m m' d d' vs vs' HD.out.vl HD'.out.vl _ (Nat.le_trans HD.out.vc HD.out.vm) (Nat.le_trans HD'.out.vc HD'.out.vm) hV.out hV'.out).mono ?_
      rintro e w3 ⟨rfl, S3⟩
      have BB3 := Lib.hid (BB2.out.trans (S3.below _))
      clear S3
      go_wp2_with fail
      go_ret
      exact ⟨by rw [decide_eq_decide.2 (show (True ∧ ks = ks' ∧ vs = vs') ↔ vs = vs' from ⟨fun h => h.2.2, fun h => ⟨trivial, H2.out, h⟩⟩)]; rfl, BB3.out⟩
    · rw [decide_eq_false h2]
      have H2 := Lib.hid h2
      clear h2 S2
      go_wp2_with fail
      go_ret
      exact ⟨by rw [decide_eq_false (fun hf => H2.out hf.2.1)]; rfl, BB2.out⟩
  · have hll : (l == l') = false := by simp [h1]
    go_enter Try.func16, Try.ntmps16
    go_wp2_with fail
    go_ret
    exact ⟨by rw [decide_eq_false (fun hf => h1 hf.1)]; rfl, BB.out⟩
end Go.Proofs.Ytllopocekegljaa.No
