/- Layer 12: a list and a range (mathematics for NodeCut). -/
import Derived.Test.YtllopocekegljaaNoS
import Derived.Laws.BitsAllLaws
namespace Go.Proofs.Ytllopocekegljaa.No
open Go.RowKit Go.Proofs.Ytllopocekegljaa.Oct Go.Proofs.Ytllopocekegljaa.Lf Go.Proofs.Ytllopocekegljaa.Mv
set_option linter.unusedVariables false

theorem upto_count {ks : List UInt64} (h : Rises ks) (k : UInt64) : upto ks k = ks.countP (fun x => decide (x.toNat ≤ k.toNat)) := by
  induction ks with
  | nil => rfl
  | cons a ks ih =>
    unfold Rises at h
    rw [List.pairwise_cons] at h
    have ih' := ih h.2
    unfold upto low at ih' ⊢
    rw [List.countP_cons, List.countP_cons]
    by_cases e : k = a
    · subst e
      have hn : k ∉ ks := fun hk => by have := h.1 k hk; omega
      rw [if_neg hn] at ih'
      simp
      omega
    · have hne : a.toNat ≠ k.toNat := fun q => e (UInt64.toNat_inj.1 q.symm)
      have hm : (k ∈ a :: ks) ↔ k ∈ ks := by simp [e]
      by_cases hk : k ∈ ks
      · rw [if_pos hk] at ih'
        rw [if_pos (hm.2 hk)]
        by_cases hl : a.toNat < k.toNat
        · have : a.toNat ≤ k.toNat := by omega
          simp [hl, this]
          omega
        · have : ¬ a.toNat ≤ k.toNat := by omega
          simp [hl, this]
          omega
      · rw [if_neg hk] at ih'
        rw [if_neg (fun q => hk (hm.1 q))]
        by_cases hl : a.toNat < k.toNat
        · have : a.toNat ≤ k.toNat := by omega
          simp [hl, this]
          omega
        · have : ¬ a.toNat ≤ k.toNat := by omega
          simp [hl, this]
          omega
/-- What lies ahead of a range, within, behind. -/
structure Rg (lo hi : Nat) (P M S : List UInt64) : Prop where
  p : ∀ x ∈ P, x.toNat < lo
  m : ∀ x ∈ M, lo ≤ x.toNat ∧ x.toNat ≤ hi
  s : ∀ x ∈ S, hi < x.toNat
theorem split_at (t : Nat) : ∀ (ks vs : List UInt64), vs.length = ks.length → Rises ks → ∃ P S PV SV, ks = P ++ S ∧ vs = PV ++ SV ∧ PV.length = P.length ∧ SV.length = S.length ∧ (∀ x ∈ P, x.toNat < t) ∧ (∀ x ∈ S, t ≤ x.toNat)
  | [], vs, hl, _ => by
    have : vs = [] := List.eq_nil_of_length_eq_zero (by simpa using hl)
    subst this
    exact ⟨[], [], [], [], rfl, rfl, rfl, rfl, by simp, by simp⟩
  | a :: ks, [], hl, _ => by simp at hl
  | a :: ks, v :: vs, hl, hr => by
    unfold Rises at hr
    rw [List.pairwise_cons] at hr
    by_cases h : a.toNat < t
    · obtain ⟨P, S, PV, SV, rfl, rfl, h1, h2, h3, h4⟩ := split_at t ks vs (by simpa using hl) hr.2
      exact ⟨a :: P, S, v :: PV, SV, rfl, rfl, by simp [h1], h2, fun x hx => by
        rcases List.mem_cons.1 hx with rfl | hx
        · exact h
        · exact h3 x hx, h4⟩
    · exact ⟨[], a :: ks, [], v :: vs, rfl, rfl, rfl, hl, by simp, fun x hx => by
        rcases List.mem_cons.1 hx with rfl | hx
        · omega
        · have := hr.1 x hx
          omega⟩
theorem cutR_rg {lo hi : UInt64} {P M S PV MV SV : List UInt64} (h : Ok true (P ++ M ++ S) (PV ++ MV ++ SV)) (hp : PV.length = P.length) (hm : MV.length = M.length) (g : Rg lo.toNat hi.toNat P M S) (hle : lo.toNat ≤ hi.toNat + 1) : cutR true (P ++ M ++ S) (PV ++ MV ++ SV) lo hi = ((true, P ++ S, PV ++ SV), MV, 0) := by
  have e1 : low (P ++ M ++ S) lo = P.length := by
    unfold low
    rw [List.countP_append, List.countP_append, List.countP_eq_length.2 (fun x hx => by simpa using g.p x hx), List.countP_eq_zero.2 (fun x hx => by have := (g.m x hx).1; simp; omega), List.countP_eq_zero.2 (fun x hx => by have := g.s x hx; simp; omega)]
    rfl
  have e2 : upto (P ++ M ++ S) hi = P.length + M.length := by
    rw [upto_count h.2.2.1, List.countP_append, List.countP_append, List.countP_eq_length.2 (fun x hx => by have := g.p x hx; simp; omega), List.countP_eq_length.2 (fun x hx => by simpa using (g.m x hx).2), List.countP_eq_zero.2 (fun x hx => by have := g.s x hx; simp; omega)]
    rfl
  have e3 : ∀ {P M S : List UInt64} {a b : Nat}, P.length = a → M.length = b → cutIn (P ++ M ++ S) a (a + b) [] = P ++ S := by
    intro P M S a b ha hb
    unfold cutIn
    rw [List.append_nil, List.append_assoc, List.take_append_of_le_length (by omega), List.take_of_length_le (by omega), ← List.append_assoc, List.drop_append, List.drop_of_length_le (by simp; omega), show a + b - (P ++ M).length = 0 by simp; omega]
    rfl
  unfold cutR
  rw [if_pos ⟨h, rfl⟩, e1, e2, Nat.max_eq_right (by omega), e3 rfl rfl, e3 hp hm, Nat.add_sub_cancel_left, List.append_assoc PV, List.drop_append, List.drop_of_length_le (by omega), show P.length - PV.length = 0 by omega, List.nil_append, List.drop_zero, List.take_append_of_le_length (by omega), List.take_of_length_le (by omega)]
theorem look_some {ks vs : List UInt64} (hl : vs.length = ks.length) (k : UInt64) : (look ks vs k).isSome = decide (k ∈ ks) := by
  unfold look
  rw [Option.isSome_map]
  rw [Bool.eq_iff_iff, List.find?_isSome]
  constructor
  · rintro ⟨p, hp, e⟩
    have := (List.of_mem_zip hp).1
    simp only [beq_iff_eq] at e
    rw [← e]
    simpa using this
  · intro h
    have hk : k ∈ ks := by simpa using h
    obtain ⟨i, hi, rfl⟩ := List.mem_iff_getElem.1 hk
    refine ⟨(ks[i], vs[i]'(by omega)), ?_, by simp⟩
    rw [List.mem_iff_getElem]
    exact ⟨i, by simp; omega, by simp⟩
theorem rises_right {P S : List UInt64} (h : Rises (P ++ S)) : Rises S := by
  unfold Rises at *
  exact (List.pairwise_append.1 h).2.1
/-- A right leaf around a range, and one behind it. -/
theorem around_rg {ks vs : List UInt64} (h : Ok true ks vs) (lo mid hi : Nat) (h1 : lo ≤ mid) (h2 : mid ≤ hi) : ∃ P M N S PV MV NV SV, ks = P ++ M ++ (N ++ S) ∧ vs = PV ++ MV ++ (NV ++ SV) ∧ PV.length = P.length ∧ MV.length = M.length ∧ NV.length = N.length ∧ SV.length = S.length ∧ (∀ x ∈ P, x.toNat < lo) ∧ (∀ x ∈ M, lo ≤ x.toNat ∧ x.toNat ≤ mid) ∧ (∀ x ∈ N, mid < x.toNat ∧ x.toNat ≤ hi) ∧ (∀ x ∈ S, hi < x.toNat) := by
  obtain ⟨P, R, PV, RV, rfl, rfl, p1, p2, p3, p4⟩ := split_at lo ks vs h.2.1 h.2.2.1
  have r1 := rises_right h.2.2.1
  obtain ⟨M, Q, MV, QV, rfl, rfl, m1, m2, m3, m4⟩ := split_at (mid + 1) R RV p2 r1
  obtain ⟨N, S, NV, SV, rfl, rfl, n1, n2, n3, n4⟩ := split_at (hi + 1) Q QV m2 (rises_right r1)
  refine ⟨P, M, N, S, PV, MV, NV, SV, by rw [List.append_assoc], by rw [List.append_assoc], p1, m1, n1, n2, p3, fun x hx => ⟨p4 x (List.mem_append_left _ hx), ?_⟩, fun x hx => ⟨?_, ?_⟩, fun x hx => ?_⟩
  · have := m3 x hx; omega
  · have := m4 x (List.mem_append_left _ hx); omega
  · have := n3 x hx; omega
  · have := n4 x hx; omega
theorem ok_sub {P M S PV MV SV : List UInt64} (h : Ok true (P ++ M ++ S) (PV ++ MV ++ SV)) (hp : PV.length = P.length) (hm : MV.length = M.length) : Ok true (P ++ S) (PV ++ SV) := by
  obtain ⟨h1, h2, h3, _⟩ := h
  simp only [List.length_append] at h1 h2
  refine ⟨by simp only [List.length_append]; omega, by simp only [List.length_append]; omega, ?_, .inl rfl⟩
  unfold Rises at *
  rw [List.pairwise_append, List.pairwise_append] at h3
  rw [List.pairwise_append]
  exact ⟨h3.1.1, h3.2.1, fun a ha b hb => h3.2.2 a (List.mem_append_left _ ha) b hb⟩
theorem xor_five (x y z u v r : Nat) (h : (u = x ∧ v = y ∧ r = z) ∨ (u = x ∧ v = z ∧ r = y) ∨ (u = y ∧ v = x ∧ r = z) ∨ (u = y ∧ v = z ∧ r = x) ∨ (u = z ∧ v = x ∧ r = y) ∨ (u = z ∧ v = y ∧ r = x)) : x ^^^ y ^^^ z ^^^ u ^^^ v = r := by
  apply Nat.eq_of_testBit_eq
  intro i
  simp only [Nat.testBit_xor]
  rcases h with ⟨rfl, rfl, rfl⟩ | ⟨rfl, rfl, rfl⟩ | ⟨rfl, rfl, rfl⟩ | ⟨rfl, rfl, rfl⟩ | ⟨rfl, rfl, rfl⟩ | ⟨rfl, rfl, rfl⟩ <;> (generalize Nat.testBit _ i = p; generalize Nat.testBit _ i = q; generalize Nat.testBit _ i = s; cases p <;> cases q <;> cases s <;> rfl)
/-- Three numbers in order. -/
theorem in_order (a b c : UInt64) : ∃ lo mid hi : UInt64, lo.toNat ≤ mid.toNat ∧ mid.toNat ≤ hi.toNat ∧ (if (c.toNat : Int) < (if b.toNat < a.toNat then (b.toNat : Int) else (a.toNat : Int)) then (c.toNat : Int) else (if b.toNat < a.toNat then (b.toNat : Int) else (a.toNat : Int))) = (lo.toNat : Int) ∧ (if (if a.toNat < b.toNat then (b.toNat : Int) else (a.toNat : Int)) < (c.toNat : Int) then (c.toNat : Int) else (if a.toNat < b.toNat then (b.toNat : Int) else (a.toNat : Int))) = (hi.toNat : Int) ∧ (a.toNat ^^^ b.toNat ^^^ c.toNat ^^^ lo.toNat ^^^ hi.toNat) = mid.toNat ∧ (lo.toNat ≤ a.toNat ∧ lo.toNat ≤ b.toNat ∧ lo.toNat ≤ c.toNat ∧ a.toNat ≤ hi.toNat ∧ b.toNat ≤ hi.toNat ∧ c.toNat ≤ hi.toNat ∧ (hi = a ∨ hi = b ∨ hi = c)) := by
  by_cases h1 : b.toNat < a.toNat
  · by_cases h2 : c.toNat < b.toNat
    · exact ⟨c, b, a, by omega, by omega, by (repeat' split) <;> omega, by (repeat' split) <;> omega, xor_five _ _ _ _ _ _ (by simp), by omega, by omega, by omega, by omega, by omega, by omega, by simp⟩
    · by_cases h3 : c.toNat < a.toNat
      · exact ⟨b, c, a, by omega, by omega, by (repeat' split) <;> omega, by (repeat' split) <;> omega, xor_five _ _ _ _ _ _ (by simp), by omega, by omega, by omega, by omega, by omega, by omega, by simp⟩
      · exact ⟨b, a, c, by omega, by omega, by (repeat' split) <;> omega, by (repeat' split) <;> omega, xor_five _ _ _ _ _ _ (by simp), by omega, by omega, by omega, by omega, by omega, by omega, by simp⟩
  · by_cases h2 : c.toNat < a.toNat
    · exact ⟨c, a, b, by omega, by omega, by (repeat' split) <;> omega, by (repeat' split) <;> omega, xor_five _ _ _ _ _ _ (by simp), by omega, by omega, by omega, by omega, by omega, by omega, by simp⟩
    · by_cases h3 : c.toNat < b.toNat
      · exact ⟨a, c, b, by omega, by omega, by (repeat' split) <;> omega, by (repeat' split) <;> omega, xor_five _ _ _ _ _ _ (by simp), by omega, by omega, by omega, by omega, by omega, by omega, by simp⟩
      · exact ⟨a, b, c, by omega, by omega, by (repeat' split) <;> omega, by (repeat' split) <;> omega, xor_five _ _ _ _ _ _ (by simp), by omega, by omega, by omega, by omega, by omega, by omega, by simp⟩
end Go.Proofs.Ytllopocekegljaa.No
