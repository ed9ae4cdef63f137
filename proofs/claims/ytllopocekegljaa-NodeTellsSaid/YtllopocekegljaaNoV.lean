/- Layer 12: what NodeJoin's walk wants to know of maps, of Join, and of lists of two nodes. -/
import Derived.Test.YtllopocekegljaaNoY
namespace Go.Proofs.Ytllopocekegljaa.No
open Go.RowKit Go.Proofs.Ytllopocekegljaa.Oct Go.Proofs.Ytllopocekegljaa.Lf Go.Proofs.Ytllopocekegljaa.Mv Go.Maps Go.ChangeMaps
set_option linter.unusedVariables false
set_option linter.unusedSimpArgs false

/-- How many a map holds: as many of the keys in L as it knows, where L holds all that it knows. -/
theorem View.count {D : DataW Unit} {f : UInt64 → Option UInt64} {n : Nat} (h : View D f n) (c : Canon D) {L : List UInt64} (hn : L.Nodup) (hs : ∀ k, (f k).isSome = true → k ∈ L) : n = (L.filter fun k => (f k).isSome).length := by
  obtain ⟨es, rfl, hp⟩ := h.tidy
  obtain ⟨es', e', _, hkl⟩ := c
  obtain rfl : es = es' := by injection e'
  have h1 : (es.map (·.1)).Nodup := by
    unfold List.Nodup
    rw [List.pairwise_map]
    exact hp
  have h2 : ((L.filter fun k => (f k).isSome).map klit).Nodup := by
    unfold List.Nodup
    rw [List.pairwise_map]
    exact (List.Pairwise.filter _ hn).imp fun h e => h (klit_inj e)
  have h3 := (List.perm_ext_iff_of_nodup h1 h2).2 (fun kl => by
    have hh := h.has kl
    constructor
    · intro hm
      obtain ⟨p, hp1, rfl⟩ := List.mem_map.1 hm
      have : Maps.has (.map es) p.1 = true := by
        rw [has_eq, List.any_eq_true]
        exact ⟨p, hp1, WideAt.sameKey_self (hkl p hp1)⟩
      obtain ⟨k, e, hk⟩ := hh.1 this
      rw [e]
      exact List.mem_map.2 ⟨k, List.mem_filter.2 ⟨hs k hk, hk⟩, rfl⟩
    · intro hm
      obtain ⟨k, hk, rfl⟩ := List.mem_map.1 hm
      have := hh.2 ⟨k, rfl, (List.mem_filter.1 hk).2⟩
      rw [has_eq, List.any_eq_true] at this
      obtain ⟨p, hp1, he⟩ := this
      exact List.mem_map.2 ⟨p, hp1, WideAt.sameKey_eq he⟩)
  have h4 := h3.length_eq
  rw [List.length_map, List.length_map] at h4
  rw [← h.size, size_eq, h4]
theorem View.most {D : DataW Unit} {f : UInt64 → Option UInt64} {n : Nat} (h : View D f n) (c : Canon D) {L : List UInt64} (hn : L.Nodup) (hs : ∀ k, (f k).isSome = true → k ∈ L) : n ≤ L.length := by
  rw [h.count c hn hs]
  exact List.length_filter_le _ _
theorem View.all {D : DataW Unit} {f : UInt64 → Option UInt64} {n : Nat} (h : View D f n) (c : Canon D) {L : List UInt64} (hn : L.Nodup) (hs : ∀ k, (f k).isSome = decide (k ∈ L)) : n = L.length := by
  rw [h.count c hn (fun k hk => by rw [hs] at hk; exact of_decide_eq_true hk), List.filter_eq_self.2 (fun k hk => by rw [hs]; exact decide_eq_true hk)]
theorem rises_nodup {ks : List UInt64} (h : Rises ks) : ks.Nodup := List.Pairwise.imp (fun h e => by subst e; omega) h

theorem rises_join {ks ks' : List UInt64} (h : Rises ks) (h' : Rises ks') (hj : ∀ (h1 : 0 < ks.length) (h2 : 0 < ks'.length), (ks[ks.length - 1]'(by omega)).toNat < (ks'[0]).toNat) : Rises (ks ++ ks') := by
  unfold Rises
  rw [List.pairwise_append]
  refine ⟨h, h', fun a ha b hb => ?_⟩
  obtain ⟨i, hi, rfl⟩ := List.mem_iff_getElem.1 ha
  obtain ⟨j, hj', rfl⟩ := List.mem_iff_getElem.1 hb
  have e := hj (by omega) (by omega)
  have e1 : (ks[i]).toNat ≤ (ks[ks.length - 1]'(by omega)).toNat := by
    rcases Nat.lt_or_ge i (ks.length - 1) with hh | hh
    · exact Nat.le_of_lt (List.pairwise_iff_getElem.1 h i (ks.length - 1) hi (by omega) hh)
    · have : i = ks.length - 1 := by omega
      subst this
      exact Nat.le_refl _
  have e2 : (ks'[0]'(by omega)).toNat ≤ (ks'[j]).toNat := by
    rcases Nat.eq_zero_or_pos j with hh | hh
    · subst hh
      exact Nat.le_refl _
    · exact Nat.le_of_lt (List.pairwise_iff_getElem.1 h' 0 j (by omega) hj' hh)
  show (ks[i]).toNat < (ks'[j]).toNat
  omega
theorem joinR_over {l l' : Bool} {ks vs ks' vs' : List UInt64} (h1 : 0 < ks.length) (h2 : 0 < ks'.length) (hj : (ks'[0]).toNat ≤ (ks[ks.length - 1]'(by omega)).toNat) : joinR l ks vs l' ks' vs' = ([], 30) := by
  unfold joinR
  rw [if_neg]
  rintro ⟨_, _, _, hr⟩
  unfold Rises at hr
  rw [List.pairwise_append] at hr
  have h3 := hr.2.2 (ks[ks.length - 1]'(by omega)) (List.getElem_mem _) ks'[0] (List.getElem_mem _)
  omega
theorem joinR_one {l : Bool} {ks vs ks' vs' : List UInt64} (h : Ok l ks vs) (h' : Ok l ks' vs') (hr : Rises (ks ++ ks')) (h7 : ks.length + ks'.length ≤ 7) : joinR l ks vs l ks' vs' = ([(l, ks ++ ks', vs ++ vs')], 0) := by
  unfold joinR
  rw [if_pos ⟨h, h', rfl, hr⟩, if_pos (by rw [List.length_append]; exact h7)]
theorem joinR_two {l : Bool} {ks vs ks' vs' : List UInt64} (h : Ok l ks vs) (h' : Ok l ks' vs') (hr : Rises (ks ++ ks')) (h7 : ¬ ks.length + ks'.length ≤ 7) {k : Nat} (hk : k = (ks.length + ks'.length + 1) / 2) : joinR l ks vs l ks' vs' = ([(l, (ks ++ ks').take k, (vs ++ vs').take k), (l, (ks ++ ks').drop k, (vs ++ vs').drop k)], 0) := by
  unfold joinR
  have e : hlf (ks ++ ks') = k := by unfold hlf; rw [List.length_append, hk]
  rw [if_pos ⟨h, h', rfl, hr⟩, if_neg (by rw [List.length_append]; exact h7), e, cutIn_head rfl, cutIn_head (by rw [List.length_append, List.length_append, h.2.1, h'.2.1]), cutIn_tail, cutIn_tail]
theorem joinR_some {l : Bool} {ks vs ks' vs' : List UInt64} (h : Ok l ks vs) (h' : Ok l ks' vs') (hr : Rises (ks ++ ks')) : ∃ L, joinR l ks vs l ks' vs' = (L, 0) ∧ L.length = 1 + (ks.length + ks'.length) / 8 ∧
    ((L = [(l, ks ++ ks', vs ++ vs')] ∧ ks.length + ks'.length ≤ 7) ∨ ∃ k, k = (ks.length + ks'.length + 1) / 2 ∧ 7 < ks.length + ks'.length ∧ L = [(l, (ks ++ ks').take k, (vs ++ vs').take k), (l, (ks ++ ks').drop k, (vs ++ vs').drop k)]) := by
  have h1 := h.1
  have h2 := h'.1
  by_cases h7 : ks.length + ks'.length ≤ 7
  · exact ⟨_, joinR_one h h' hr h7, by simp; omega, .inl ⟨rfl, h7⟩⟩
  · exact ⟨_, joinR_two h h' hr h7 rfl, by simp; omega, .inr ⟨_, rfl, by omega, rfl⟩⟩
theorem ListD.len {w : World} {base : Nat} {v : Value} {L : List PN} {n : Nat} (h : ListD w base v L) (hn : L.length = n) : ∃ A, v = .slice A n n := by
  rcases h with ⟨rfl, rfl⟩ | ⟨g, us, e, _⟩
  · exact ⟨Option.none, by rw [← hn]; rfl⟩
  · exact ⟨_, by rw [← hn]; exact e⟩
/-- What is known of two lists, one behind the other. -/
theorem look_app {ks vs ks' vs' : List UInt64} (hl : vs.length = ks.length) (hl' : vs'.length = ks'.length) (k : UInt64) : look (ks ++ ks') (vs ++ vs') k = (look ks vs k).or (look ks' vs' k) := by
  unfold look
  rw [List.zip_append hl.symm, List.find?_append]
  cases (ks.zip vs).find? (fun p => p.1 == k) <;> simp
theorem look_swap {ks vs ks' vs' : List UInt64} (hl : vs.length = ks.length) (hl' : vs'.length = ks'.length) (hr : Rises (ks ++ ks')) (k : UInt64) : (look ks' vs' k).or (look ks vs k) = look (ks ++ ks') (vs ++ vs') k := by
  rw [look_app hl hl']
  have h1 := look_some hl k
  have h2 := look_some hl' k
  cases e1 : look ks vs k with
  | none => cases look ks' vs' k <;> rfl
  | some v =>
    cases e2 : look ks' vs' k with
    | none => rfl
    | some v' =>
      rw [e1] at h1
      rw [e2] at h2
      have m1 : k ∈ ks := of_decide_eq_true h1.symm
      have m2 : k ∈ ks' := of_decide_eq_true h2.symm
      unfold Rises at hr
      rw [List.pairwise_append] at hr
      have := hr.2.2 k m1 k m2
      omega
theorem MapV.all {w : World} {b cap n : Nat} {f : UInt64 → Option UInt64} (h : MapV w b cap f n) {L : List UInt64} (hn : L.Nodup) (hs : ∀ k, (f k).isSome = decide (k ∈ L)) : n = L.length := by
  obtain ⟨D, o, v⟩ := h
  exact v.all (o.canon keysU) hn hs
/-- A map into which another one's entries are laid: those that are no longer to come. -/
def laid (f g : UInt64 → Option UInt64) (left : Lit → Bool) (k : UInt64) : Option UInt64 := if ((g k).isSome && !left (klit k)) = true then g k else f k
theorem laid_start {f g : UInt64 → Option UInt64} {left : Lit → Bool} (h : ∀ k, (g k).isSome = true → left (klit k) = true) (k : UInt64) : f k = laid f g left k := by
  unfold laid
  rw [if_neg]
  intro e
  rw [Bool.and_eq_true] at e
  rw [h k e.1] at e
  exact absurd e.2 (by decide)
theorem laid_step {f g : UInt64 → Option UInt64} {left : Lit → Bool} {k v : UInt64} (h : g k = some v) (x : UInt64) : (if x = k then some v else laid f g left x) = laid f g (fun z => left z && !z.sameKey (klit k)) x := by
  unfold laid
  show _ = if ((g x).isSome && !(left (klit x) && !(klit x).sameKey (klit k))) = true then g x else f x
  by_cases e : x = k
  · subst e
    rw [if_pos rfl, h, WideAt.sameKey_self (klit_key x)]
    simp
  · rw [if_neg e, sameKey_ne (fun e2 => e (klit_inj e2))]
    simp
theorem laid_end {f g : UInt64 → Option UInt64} {left : Lit → Bool} (h : ∀ z, left z = false) (k : UInt64) : laid f g left k = (g k).or (f k) := by
  unfold laid
  rw [h]
  cases g k <;> simp
theorem own_grown {w w' : World} {base b : Nat} {v : Value} {ns : List UInt64} (h : OwnN w base v ns) (hb : b < base) (k : w.grownBy w' (some b)) : OwnN w' base v ns := by
  refine ⟨h.1, ?_⟩
  rcases h.2 with hn | ⟨g, cap, cur, rfl, hg, hgg, rest⟩
  · exact .inl hn
  · refine .inr ⟨g, cap, cur, rfl, hg, ?_, rest⟩
    rw [k.block g (Array.getElem?_eq_some_iff.1 hgg).1 (fun e => by have := Option.some.inj e; omega)]
    exact hgg
theorem list_grown {w w' : World} {base b : Nat} {v : Value} {L : List PN} (h : ListD w base v L) (hb : b < base) (k : w.grownBy w' (some b)) : ListD w' base v L := by
  rcases h with h | ⟨g, us, e, h1, h2, h3, h4⟩
  · exact .inl h
  · exact .inr ⟨g, us, e, h1, h2.block (k.block g h2.lt (fun e => by have := Option.some.inj e; omega)), h3, fun i a b => ⟨(h4 i a b).1, own_grown (h4 i a b).2.1 hb k, own_grown (h4 i a b).2.2 hb k⟩⟩
theorem row_grown {w w' : World} {b r : Nat} {T : TypeId} {vs : List Value} (h : RowV w r T vs) {es : Array MapEntry} {cl : Nat} (hm : w.heap[b]? = some (.map es cl)) (k : w.grownBy w' (some b)) : RowV w' r T vs := by
  refine h.block (k.block r h.lt (fun e2 => ?_))
  have e3 := Option.some.inj e2
  subst e3
  unfold RowV at h
  rw [hm] at h
  cases h
theorem ownd_grown {w w' : World} {base b : Nat} {v : Value} {l : Bool} {ks vs : List UInt64} (h : OwnD w base v l ks vs) (hb : b < base) (k : w.grownBy w' (some b)) : OwnD w' base v l ks vs := by
  obtain ⟨vk, vv, e, h1, h2⟩ := h
  exact ⟨vk, vv, e, own_grown h1 hb k, own_grown h2 hb k⟩
theorem own_turn {w w' : World} {base b : Nat} {v : Value} {ns : List UInt64} (h : OwnN w base v ns) {es : Array MapEntry} {cl : Nat} (hm : w.heap[b]? = some (.map es cl)) (k : w.grownBy w' (some b)) : OwnN w' base v ns := by
  refine ⟨h.1, ?_⟩
  rcases h.2 with hn | ⟨g, cap, cur, rfl, hg, hgg, rest⟩
  · exact .inl hn
  · refine .inr ⟨g, cap, cur, rfl, hg, ?_, rest⟩
    rw [k.block g (Array.getElem?_eq_some_iff.1 hgg).1 (fun e => by have e3 := Option.some.inj e; subst e3; rw [hm] at hgg; cases hgg)]
    exact hgg
theorem ownd_turn {w w' : World} {base b : Nat} {v : Value} {l : Bool} {ks vs : List UInt64} (h : OwnD w base v l ks vs) {es : Array MapEntry} {cl : Nat} (hm : w.heap[b]? = some (.map es cl)) (k : w.grownBy w' (some b)) : OwnD w' base v l ks vs := by
  obtain ⟨vk, vv, e, h1, h2⟩ := h
  exact ⟨vk, vv, e, own_turn h1 hm k, own_turn h2 hm k⟩
/-- What was there stays but for one map: one step on, which touches nothing that was there. -/
theorem grow_on {a b c : World} {s : Nat} (h : a.grownBy b (some s)) (k : Below b.heap.size b c) : a.grownBy c (some s) :=
  h.andThen (row' := Option.none) ⟨k.os, k.tape, k.output, k.size, fun q hq _ => k.block q hq⟩ (fun j e => by cases e)
end Go.Proofs.Ytllopocekegljaa.No
