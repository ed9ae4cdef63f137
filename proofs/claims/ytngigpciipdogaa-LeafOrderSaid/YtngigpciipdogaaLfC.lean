/- Contracts: leaf.Right and EqualNodes. -/
import Derived.Test.YtngigpciipdogaaLfB
namespace Go.Proofs.Ytngigpciipdogaa.Lf
open Go.RowKit Go.Proofs.Ytngigpciipdogaa.Oct
set_option linter.unusedVariables false

/-- Which nodes are right. -/
def Fit (l : Bool) (ks vs : List UInt64) : Prop := ks.length ≤ 7 ∧ vs.length = ks.length ∧ Rises ks ∧ (l = true ∨ (0 < ks.length ∧ Kids vs))
instance (l : Bool) (ks vs : List UInt64) : Decidable (Fit l ks vs) := by unfold Fit; infer_instance

/-- A node's keys and values are told. -/
structure Nd (w : World) (A : Option Addr) (n c : Nat) (B : Option Addr) (m d : Nat) (ks vs : List UInt64) : Prop where
  kl : ks.length = n
  vl : vs.length = m
  kc : n ≤ c
  km : c ≤ maxLen
  vc : m ≤ d
  vm : d ≤ maxLen
  ks : ToldN w A ks
  vs : ToldN w B vs
theorem Nd.below {w w' : World} {A B : Option Addr} {n c m d : Nat} {ks vs : List UInt64} (h : Nd w A n c B m d ks vs) (k : Below w.heap.size w w') : Nd w' A n c B m d ks vs := ⟨h.kl, h.vl, h.kc, h.km, h.vc, h.vm, h.ks.below k, h.vs.below k⟩

theorem Nd.boxed {w : World} {A B : Option Addr} {n c m d : Nat} {ks vs : List UInt64} (h : Nd w A n c B m d ks vs) (o : Obj) : Nd (w.alloc o) A n c B m d ks vs := h.below ((Below.refl _ _).alloc (Nat.le_refl _) _)
theorem Nd.still {w w' : World} {A B : Option Addr} {n c m d : Nat} {ks vs : List UInt64} (h : Nd w A n c B m d ks vs) (S : Still w w') : Nd w' A n c B m d ks vs := ⟨h.kl, h.vl, h.kc, h.km, h.vc, h.vm, h.ks.still S, h.vs.still S⟩

theorem fit_leaf {ks vs : List UInt64} (h1 : ks.length ≤ 7) (h2 : vs.length = ks.length) (h3 : Rises ks) : Fit true ks vs := ⟨h1, h2, h3, .inl rfl⟩
theorem fit_inner {ks vs : List UInt64} (h1 : ks.length ≤ 7) (h2 : vs.length = ks.length) (h3 : Rises ks) (h4 : 0 < ks.length) : decide (Fit false ks vs) = decide (Kids vs) :=
  decide_eq_decide.2 ⟨fun h => by rcases h.2.2.2 with h | h; cases h; exact h.2, fun h => ⟨h1, h2, h3, .inr ⟨h4, h⟩⟩⟩
theorem fit_bare {ks vs : List UInt64} (h4 : ¬ 0 < ks.length) : ¬ Fit false ks vs := fun h => by
  rcases h.2.2.2 with h | h
  · cases h
  · exact h4 h.1

theorem box_cell (w : World) (xs : Array Value) (T : TypeId) (i : Nat) (v : Value) (h : xs[i]? = some v) : (w.alloc (.cells xs T)).cell? ⟨w.heap.size, i, none⟩ = some v := by
  have := heap_alloc_new w (.cells xs T)
  generalize w.alloc (.cells xs T) = w' at this
  simp [World.cell?, this, h]

set_option maxRecDepth 100000 in
set_option maxHeartbeats 800000 in
theorem right_any (l : Bool) {w : World} {A B : Option Addr} {n c m d : Nat} {ks vs : List UInt64} (h : Nd w A n c B m d ks vs) (hn : n ≤ 1000) (hm : m ≤ 1000) :
    Calls Try.prog 4 #[.agg #[.bool l, .slice A n c, .slice B m d]] w fun e w' => e = .returned (.bool (decide (Fit l ks vs))) ∧ Below w.heap.size w w' := by
  have HD := Lib.hid h
  have hnk : ks.length = n := h.kl
  have hvk : vs.length = m := h.vl
  have HF := Lib.hid (show Fit l ks vs ↔ (n ≤ 7 ∧ m = n ∧ Rises ks ∧ (l = true ∨ (0 < n ∧ Kids vs))) by unfold Fit; rw [hnk, hvk])
  clear h hnk hvk
  have HB1 := Lib.hid (HD.out.boxed (.cells #[.bool l, .slice A n c, .slice B m d] 24))
  have BB := Lib.hid ((Below.refl w.heap.size w).alloc (Nat.le_refl _) (.cells #[.bool l, .slice A n c, .slice B m d] 24))
  by_cases h1 : n ≤ 7
  · by_cases h2 : m = n
    · subst h2
      have hmm : ((m : Int) != (m : Int)) = false := by simp
      go_enter Try.func4, Try.ntmps4
      go_wp2_with fail
      refine (rising_any A m c ks HD.out.kl _ (by omega) HB1.out.ks).mono ?_
      rintro e w2 ⟨rfl, S2⟩
      by_cases h3 : Rises ks
      · rw [decide_eq_true h3]
        have e0 := (S2.cell ⟨w.heap.size, 0, none⟩).trans (box_cell w _ _ 0 _ rfl)
        have e1 := (S2.cell ⟨w.heap.size, 1, none⟩).trans (box_cell w _ _ 1 _ rfl)
        have e2 := (S2.cell ⟨w.heap.size, 2, none⟩).trans (box_cell w _ _ 2 _ rfl)
        have HB2 := Lib.hid (HB1.out.still S2)
        have BB2 := Lib.hid (BB.out.trans (S2.below _))
        clear S2
        cases l with
        | true =>
          go_wp2_with fail
          go_ret
          exact ⟨by rw [decide_eq_true (fit_leaf (by rw [HD.out.kl]; exact h1) (HD.out.vl.trans HD.out.kl.symm) h3)]; rfl, BB2.out⟩
        | false =>
          by_cases h4 : 0 < m
          · go_wp2_with fail
            refine (kids_any B m d vs HD.out.vl HD.out.vc HD.out.vm _ (by omega) HB2.out.vs).mono ?_
            rintro e w3 ⟨rfl, rfl⟩
            go_wp2_with fail
            go_ret
            refine ⟨?_, BB2.out⟩
            rw [fit_inner (by rw [HD.out.kl]; exact h1) (HD.out.vl.trans HD.out.kl.symm) h3 (by rw [HD.out.kl]; exact h4)]
            rfl
          · go_wp2_with fail
            go_ret
            exact ⟨by rw [decide_eq_false (fit_bare (by rw [HD.out.kl]; exact h4))]; rfl, BB2.out⟩
      · rw [decide_eq_false h3]
        go_wp2_with fail
        go_ret
        exact ⟨by rw [decide_eq_false (fun hf => h3 (HF.out.1 hf).2.2.1)]; rfl, BB.out.trans (S2.below _)⟩
    · have hmm : ((m : Int) != (n : Int)) = true := by rw [bne_iff_ne]; omega
      go_enter Try.func4, Try.ntmps4
      go_wp2_with fail
      go_ret
      exact ⟨by rw [decide_eq_false (fun hf => h2 (HF.out.1 hf).2.1)]; rfl, BB.out⟩
  · go_enter Try.func4, Try.ntmps4
    go_wp2_with fail
    go_ret
    exact ⟨by rw [decide_eq_false (fun hf => h1 (HF.out.1 hf).1)]; rfl, BB.out⟩

set_option maxRecDepth 100000 in
set_option maxHeartbeats 800000 in
theorem eqnodes_any (l l' : Bool) {w : World} {A B A' B' : Option Addr} {n c m d n' c' m' d' : Nat} {ks vs ks' vs' : List UInt64} (h : Nd w A n c B m d ks vs) (h' : Nd w A' n' c' B' m' d' ks' vs') (hn : n ≤ 1000) (hm : m ≤ 1000) :
    Calls Try.prog 11 #[.agg #[.bool l, .slice A n c, .slice B m d], .agg #[.bool l', .slice A' n' c', .slice B' m' d']] w fun e w' => e = .returned (.bool (decide (l = l' ∧ ks = ks' ∧ vs = vs'))) ∧ Below w.heap.size w w' := by
  have HD := Lib.hid h
  have HD' := Lib.hid h'
  have hn' := h'.kc
  have hm' := h'.vc
  have hnm := h'.km
  have hmm := h'.vm
  unfold maxLen at hnm hmm
  clear h h'
  have HB1 := Lib.hid ((HD.out.boxed (.cells #[.bool l, .slice A n c, .slice B m d] 24)).boxed (.cells #[.bool l', .slice A' n' c', .slice B' m' d'] 24))
  have HB1' := Lib.hid ((HD'.out.boxed (.cells #[.bool l, .slice A n c, .slice B m d] 24)).boxed (.cells #[.bool l', .slice A' n' c', .slice B' m' d'] 24))
  have b1 := (Below.refl w.heap.size w).alloc (Nat.le_refl _) (.cells #[.bool l, .slice A n c, .slice B m d] 24)
  have BB := Lib.hid (b1.alloc b1.size (.cells #[.bool l', .slice A' n' c', .slice B' m' d'] 24))
  clear b1
  by_cases h1 : l = l'
  · subst h1
    have hll : (l == l) = true := by simp
    go_enter Try.func11, Try.ntmps11
    go_wp2_with fail
    refine (eqnums_any A A' n n' c c' ks ks' HD.out.kl HD'.out.kl _ (by omega) (Nat.le_trans HD'.out.kc HD'.out.km) HB1.out.ks HB1'.out.ks).mono ?_
    rintro e w2 ⟨rfl, S2⟩
    have BB2 := Lib.hid (BB.out.trans (S2.below _))
    by_cases h2 : ks = ks'
    · rw [decide_eq_true h2]
      have H2 := Lib.hid h2
      clear h2
      have e1 : w2.cell? ⟨w.heap.size, 2, none⟩ = some (.slice B m d) := (S2.cell ⟨w.heap.size, 2, none⟩).trans (by simp)
      have e2 : w2.cell? ⟨w.heap.size + 1, 2, none⟩ = some (.slice B' m' d') := (S2.cell ⟨w.heap.size + 1, 2, none⟩).trans (by simp)
      have hV := Lib.hid (HB1.out.vs.still S2)
      have hV' := Lib.hid (HB1'.out.vs.still S2)
      clear S2
      go_wp2_with fail
      refine (eqnums_any B B' m m' d d' vs vs' HD.out.vl HD'.out.vl _ (by omega) (Nat.le_trans HD'.out.vc HD'.out.vm) hV.out hV'.out).mono ?_
      rintro e w3 ⟨rfl, S3⟩
      have BB3 := Lib.hid (BB2.out.trans (S3.below _))
      clear S3
      go_wp2_with fail
      go_ret
      exact ⟨by rw [decide_eq_decide.2 (show (True ∧ ks = ks' ∧ vs = vs') ↔ vs = vs' from ⟨fun h => h.2.2, fun h => ⟨trivial, H2.out, h⟩⟩)]; rfl, BB3.out⟩
    · rw [decide_eq_false h2]
      have H2 := Lib.hid h2
      clear h2 S2
      go_wp2_with fail
      go_ret
      exact ⟨by rw [decide_eq_false (fun hf => H2.out hf.2.1)]; rfl, BB2.out⟩
  · have hll : (l == l') = false := by simp [h1]
    go_enter Try.func11, Try.ntmps11
    go_wp2_with fail
    go_ret
    exact ⟨by rw [decide_eq_false (fun hf => h1 hf.1)]; rfl, BB.out⟩
end Go.Proofs.Ytngigpciipdogaa.Lf
