/- Layer 12: what Join tells, part by part; an element of a list of nodes. -/
import Derived.Test.YtllopocekegljaaNoV
import Derived.Test.YtllopocekegljaaNoN
namespace Go.Proofs.Ytllopocekegljaa.No
open Go.RowKit Go.Proofs.Ytllopocekegljaa.Oct Go.Proofs.Ytllopocekegljaa.Lf Go.Proofs.Ytllopocekegljaa.Mv Go.Maps Go.ChangeMaps
set_option linter.unusedVariables false
set_option linter.unusedSimpArgs false

/-- The keys K, the values V, in parts: the parts L, cut at p. -/
structure PartsOf (l : Bool) (K V : List UInt64) (p : Nat → Nat) (L : List PN) : Prop where
  zero : p 0 = 0
  last : p L.length = K.length
  part : ∀ j, j < L.length → ∃ Kj Vj, L[j]? = some (l, Kj, Vj) ∧ Ok l Kj Vj ∧ p (j + 1) = p j + Kj.length ∧ p (j + 1) ≤ K.length ∧ K.take (p (j + 1)) = K.take (p j) ++ Kj ∧ V.take (p (j + 1)) = V.take (p j) ++ Vj ∧ (0 < j → 0 < Kj.length ∧ 0 < p j) ∧ (Kj.length = 0 → K.length = 0)
theorem join_parts {l : Bool} {ks vs ks' vs' : List UInt64} (h : Ok l ks vs) (h' : Ok l ks' vs') (hr : Rises (ks ++ ks')) : ∃ (L : List PN) (p : Nat → Nat), joinR l ks vs l ks' vs' = (L, 0) ∧ L.length = 1 + (ks.length + ks'.length) / 8 ∧ PartsOf l (ks ++ ks') (vs ++ vs') p L ∧
    (L.length = 2 → ∃ a b, L = [a, b] ∧ a.2.1.length = (ks.length + ks'.length + 1) / 2 ∧ b.2.1.length = (ks.length + ks'.length) - (ks.length + ks'.length + 1) / 2 ∧ a.2.2.length = a.2.1.length ∧ b.2.2.length = b.2.1.length) := by
  have h1 := h.1
  have h2 := h'.1
  have h3 := h.2.1
  have h4 := h'.2.1
  obtain ⟨L, e1, e2, e3⟩ := joinR_some h h' hr
  have hN : (ks ++ ks').length = ks.length + ks'.length := List.length_append
  have hM : (vs ++ vs').length = ks.length + ks'.length := by rw [List.length_append, h3, h4]
  rcases e3 with ⟨rfl, h7⟩ | ⟨k, hk, h7, rfl⟩
  · refine ⟨_, fun j => if j = 0 then 0 else ks.length + ks'.length, e1, e2, ⟨rfl, by simp, fun j hj => ?_⟩, fun h => by simp at h⟩
    obtain rfl : j = 0 := by simpa using hj
    refine ⟨_, _, rfl, ⟨by omega, by omega, hr, ?_⟩, by show ks.length + ks'.length = 0 + (ks ++ ks').length; omega, by show ks.length + ks'.length ≤ (ks ++ ks').length; omega, by show (ks ++ ks').take (ks.length + ks'.length) = (ks ++ ks').take 0 ++ (ks ++ ks'); rw [← hN, List.take_length]; rfl, by show (vs ++ vs').take (ks.length + ks'.length) = (vs ++ vs').take 0 ++ (vs ++ vs'); rw [← hM, List.take_length]; rfl, fun h => absurd h (Nat.lt_irrefl _), fun h => h⟩
    rcases h.2.2.2 with h5 | h5
    · exact .inl h5
    · exact .inr (by omega)
  · have hkN : k < (ks ++ ks').length := by omega
    have t1 : ((ks ++ ks').take k).length = k := by rw [List.length_take]; omega
    have t2 : ((vs ++ vs').take k).length = k := by rw [List.length_take]; omega
    have t3 : ((ks ++ ks').drop k).length = ks.length + ks'.length - k := by rw [List.length_drop, hN]
    have t4 : ((vs ++ vs').drop k).length = ks.length + ks'.length - k := by rw [List.length_drop, hM]
    refine ⟨_, fun j => if j = 0 then 0 else if j = 1 then k else ks.length + ks'.length, e1, e2, ⟨rfl, by simp, fun j hj => ?_⟩, fun _ => ⟨_, _, rfl, by rw [← hk]; exact t1, by rw [← hk]; exact t3, by show ((vs ++ vs').take k).length = ((ks ++ ks').take k).length; omega, by show ((vs ++ vs').drop k).length = ((ks ++ ks').drop k).length; omega⟩⟩
    have hj2 : j < 2 := by simpa using hj
    rcases Nat.lt_or_ge 0 j with hh | hh
    · obtain rfl : j = 1 := by omega
      refine ⟨_, _, rfl, ⟨by omega, by omega, rises_drop hr k, .inr (by omega)⟩, by show ks.length + ks'.length = k + ((ks ++ ks').drop k).length; omega, by show ks.length + ks'.length ≤ (ks ++ ks').length; omega, ?_, ?_, fun _ => ⟨by omega, by show 0 < k; omega⟩, fun h => by omega⟩
      · show (ks ++ ks').take (ks.length + ks'.length) = (ks ++ ks').take k ++ (ks ++ ks').drop k
        rw [List.take_append_drop, ← hN, List.take_length]
      · show (vs ++ vs').take (ks.length + ks'.length) = (vs ++ vs').take k ++ (vs ++ vs').drop k
        rw [List.take_append_drop, ← hM, List.take_length]
    · obtain rfl : j = 0 := by omega
      refine ⟨_, _, rfl, ⟨by omega, by omega, rises_take hr k, .inr (by omega)⟩, by show k = 0 + ((ks ++ ks').take k).length; omega, by show k ≤ (ks ++ ks').length; omega, by show (ks ++ ks').take k = (ks ++ ks').take 0 ++ (ks ++ ks').take k; rfl, by show (vs ++ vs').take k = (vs ++ vs').take 0 ++ (vs ++ vs').take k; rfl, fun h => absurd h (Nat.lt_irrefl _), fun h => by omega⟩

theorem ListD.some {w : World} {base m : Nat} {v : Value} {L : List PN} (h : ListD w base v L) (hn : L.length = 1 + m) : ∃ g, v = .slice (Option.some ⟨g, 0, Option.none⟩) (1 + m) (1 + m) := by
  rcases h with ⟨_, rfl⟩ | ⟨g, us, e, _⟩
  · simp at hn; omega
  · exact ⟨g, by rw [← hn]; exact e⟩
theorem ListD.pos {w : World} {base n : Nat} {A : Option Addr} {L : List PN} (h : ListD w base (.slice A n n) L) (hn : 0 < L.length) : ∃ g, A = Option.some ⟨g, 0, Option.none⟩ := by
  rcases h with ⟨_, rfl⟩ | ⟨g, us, e, _⟩
  · simp at hn
  · simp only [Value.slice.injEq] at e
    exact ⟨g, e.1⟩
theorem ListD.el {w : World} {base g n j : Nat} {L : List PN} {l : Bool} {K V : List UInt64} (h : ListD w base (.slice (Option.some ⟨g, 0, Option.none⟩) n n) L) (hj : L[j]? = Option.some (l, K, V)) : ∃ A c B d,
    w.cell? ⟨g, j * 3, Option.none⟩ = Option.some (.bool l) ∧ w.cell? ⟨g, j * 3 + 1, Option.none⟩ = Option.some (.slice A K.length c) ∧ w.cell? ⟨g, j * 3 + 2, Option.none⟩ = Option.some (.slice B V.length d) ∧ Nd w A K.length c B V.length d K V ∧ OwnD w base (.agg #[.bool l, .slice A K.length c, .slice B V.length d]) l K V := by
  rcases h with ⟨h, _⟩ | ⟨g', us, e, _, hr, hl, hu⟩
  · cases h
  · simp only [Value.slice.injEq, Option.some.injEq, Addr.mk.injEq, and_true] at e
    obtain ⟨rfl, rfl, _⟩ := e
    have hjl : j < L.length := (List.getElem?_eq_some_iff.1 hj).1
    have hje : L[j] = (l, K, V) := (List.getElem?_eq_some_iff.1 hj).2
    have hjU : j < us.length := by omega
    obtain ⟨e0, o1, o2⟩ := hu j hjl hjU
    rw [hje] at e0 o1 o2
    obtain ⟨A, c, B, d, f1, f2, N0⟩ := own_nd o1 o2
    obtain ⟨r0, r1, r2⟩ := rowOf_at us j hjU
    rw [e0] at r0
    rw [f1] at r1
    rw [f2] at r2
    have k0 := hr.cellAt r0
    have k1 := hr.cellAt r1
    have k2 := hr.cellAt r2
    rw [Nat.mul_comm 3 j] at k0 k1 k2
    exact ⟨A, c, B, d, k0, k1, k2, N0, us[j].2.1, us[j].2.2, by rw [f1, f2], o1, o2⟩
/-- A list of nodes of the call's own stays when one map turns. -/
theorem list_turn {w w' : World} {base b : Nat} {v : Value} {L : List PN} (h : ListD w base v L) {es : Array MapEntry} {cl : Nat} (hm : w.heap[b]? = Option.some (.map es cl)) (k : w.grownBy w' (Option.some b)) : ListD w' base v L := by
  rcases h with h | ⟨g, us, e, h1, h2, h3, h4⟩
  · exact .inl h
  · exact .inr ⟨g, us, e, h1, row_grown h2 hm k, h3, fun i a b => ⟨(h4 i a b).1, own_turn (h4 i a b).2.1 hm k, own_turn (h4 i a b).2.2 hm k⟩⟩
/-- The key at which a part begins; the one at which it ends. -/
theorem part_first {K Kj : List UInt64} {a b : Nat} (ha : a ≤ K.length) (h : K.take b = K.take a ++ Kj) (h0 : 0 < Kj.length) : K[a]? = Option.some (Kj[0]'h0) := by
  have e : (K.take b)[a]? = Option.some (Kj[0]'h0) := by
    rw [h, List.getElem?_append_right (by rw [List.length_take]; omega), List.length_take, Nat.min_eq_left ha, Nat.sub_self, List.getElem?_eq_getElem h0]
  rw [List.getElem?_take] at e
  split at e
  · exact e
  · cases e
theorem part_end {K Kj : List UInt64} {a b : Nat} (ha : a ≤ K.length) (hb : b = a + Kj.length) (h : K.take b = K.take a ++ Kj) (h0 : 0 < Kj.length) : K[b - 1]? = Option.some (Kj[Kj.length - 1]'(by omega)) := by
  have e : (K.take b)[b - 1]? = Option.some (Kj[Kj.length - 1]'(by omega)) := by
    rw [h, List.getElem?_append_right (by rw [List.length_take]; omega), List.length_take, Nat.min_eq_left ha, show b - 1 - a = Kj.length - 1 by omega, List.getElem?_eq_getElem (by omega)]
  rw [List.getElem?_take] at e
  split at e
  · exact e
  · cases e
theorem part_rise {K : List UInt64} {a : Nat} (h : Rises K) (ha : 0 < a) {x y : UInt64} (h1 : K[a - 1]? = Option.some x) (h2 : K[a]? = Option.some y) : x.toNat < y.toNat := by
  obtain ⟨i1, e1⟩ := List.getElem?_eq_some_iff.1 h1
  obtain ⟨i2, e2⟩ := List.getElem?_eq_some_iff.1 h2
  rw [← e1, ← e2]
  exact List.pairwise_iff_getElem.1 h _ _ i1 i2 (by omega)
/-- A part more is laid into a map. -/
theorem laid_part {K V Kj Vj : List UInt64} {a b : Nat} (hl : V.length = K.length) (hlj : Vj.length = Kj.length) (hr : Rises K) (hK : K.take b = K.take a ++ Kj) (hV : V.take b = V.take a ++ Vj) {left : Lit → Bool} (hleft : ∀ z, left z = false) (k : UInt64) : laid (look (K.take a) (V.take a)) (look Kj Vj) left k = look (K.take b) (V.take b) k := by
  rw [laid_end hleft, hK, hV]
  exact look_swap (by rw [List.length_take, List.length_take, hl]) hlj (by rw [← hK]; exact rises_take hr b) k
end Go.Proofs.Ytllopocekegljaa.No
