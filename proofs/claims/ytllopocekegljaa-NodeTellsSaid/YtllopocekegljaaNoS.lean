/- Layer 12: a list around a key (mathematics for NodePut). -/
import Derived.Test.YtllopocekegljaaNoP
namespace Go.Proofs.Ytllopocekegljaa.No
open Go.RowKit Go.Proofs.Ytllopocekegljaa.Oct Go.Proofs.Ytllopocekegljaa.Lf Go.Proofs.Ytllopocekegljaa.Mv
set_option linter.unusedVariables false

theorem cutIn_head {ks : List UInt64} {n k : Nat} (h : ks.length = n) : cutIn ks k n [] = ks.take k := by
  unfold cutIn
  rw [List.append_nil, List.drop_of_length_le (by omega), List.append_nil]
theorem cutIn_tail (ks : List UInt64) (k : Nat) : cutIn ks 0 k [] = ks.drop k := by
  unfold cutIn
  simp
theorem rises_take {ks : List UInt64} (h : Rises ks) (k : Nat) : Rises (ks.take k) := List.Pairwise.sublist (List.take_sublist _ _) h
theorem rises_drop {ks : List UInt64} (h : Rises ks) (k : Nat) : Rises (ks.drop k) := List.Pairwise.sublist (List.drop_sublist _ _) h
theorem ok_take {l : Bool} {ks vs : List UInt64} (h : Ok l ks vs) {k : Nat} (h0 : 0 < k) (hk : k < ks.length) : Ok l (ks.take k) (vs.take k) := by
  obtain ⟨h1, h2, h3, h4⟩ := h
  exact ⟨by rw [List.length_take]; omega, by rw [List.length_take, List.length_take, h2], rises_take h3 k, .inr (by rw [List.length_take]; omega)⟩
theorem ok_drop {l : Bool} {ks vs : List UInt64} (h : Ok l ks vs) {k : Nat} (hk : k < ks.length) : Ok l (ks.drop k) (vs.drop k) := by
  obtain ⟨h1, h2, h3, h4⟩ := h
  exact ⟨by rw [List.length_drop]; omega, by rw [List.length_drop, List.length_drop, h2], rises_drop h3 k, .inr (by rw [List.length_drop]; omega)⟩
theorem joinR_parts {l : Bool} {ks vs : List UInt64} (h : Ok l ks vs) {k : Nat} (h0 : 0 < k) (hk : k < ks.length) : joinR l (ks.take k) (vs.take k) l (ks.drop k) (vs.drop k) = ([(l, ks, vs)], 0) := by
  unfold joinR
  rw [List.take_append_drop, List.take_append_drop, if_pos ⟨ok_take h h0 hk, ok_drop h hk, rfl, h.2.2.1⟩, if_pos h.1]
theorem joinR_turned {l : Bool} {ks vs : List UInt64} (h : Ok l ks vs) {k : Nat} (h0 : 0 < k) (hk : k < ks.length) : joinR l (ks.drop k) (vs.drop k) l (ks.take k) (vs.take k) = ([], 30) := by
  unfold joinR
  rw [if_neg]
  rintro ⟨_, _, _, hr⟩
  unfold Rises at hr
  rw [List.pairwise_append] at hr
  have h1 := hr.2.2 (ks[k]) (by rw [List.mem_iff_getElem]; exact ⟨0, by rw [List.length_drop]; omega, by rw [List.getElem_drop]; simp⟩) (ks[0]'(by omega)) (by rw [List.mem_iff_getElem]; exact ⟨0, by rw [List.length_take]; omega, by rw [List.getElem_take]⟩)
  have h2 := (List.pairwise_iff_getElem.1 h.2.2.1) 0 k (by omega) hk h0
  omega
theorem splitR_few {l : Bool} {ks vs : List UInt64} (h : Ok l ks vs) (h2 : ks.length < 2) : splitR l ks vs = (zn, zn, 122) := by unfold splitR; rw [if_pos h, if_pos h2]
theorem splitR_two {l : Bool} {ks vs : List UInt64} (h : Ok l ks vs) (h2 : ¬ ks.length < 2) : splitR l ks vs = ((l, ks.take ((ks.length + 1) / 2), vs.take ((ks.length + 1) / 2)), (l, ks.drop ((ks.length + 1) / 2), vs.drop ((ks.length + 1) / 2)), 0) := by
  unfold splitR
  rw [if_pos h, if_neg h2, cutIn_head rfl, cutIn_head h.2.1, cutIn_tail, cutIn_tail]
/-- One node in a list. -/
theorem ListD.one {w : World} {base : Nat} {v : Value} {l : Bool} {ks vs : List UInt64} {n : Nat} (h : ListD w base v [(l, ks, vs)]) (h1 : ks.length = n) (h2 : vs.length = n) : ∃ g A c B d, v = .slice (some ⟨g, 0, none⟩) 1 1 ∧ RowV w g 24 [.bool l, .slice A n c, .slice B n d] ∧ Nd w A n c B n d ks vs := by
  rcases h with ⟨_, h⟩ | ⟨g, us, e, _, hr, hl, hu⟩
  · cases h
  · match us, hl with
    | [u0], _ =>
      obtain ⟨e0, o0, o0'⟩ := hu 0 (by simp) (by simp)
      obtain ⟨A, c, B, d, f1, f2, N0⟩ := own_nd o0 o0'
      simp at e0 f1 f2 N0
      obtain ⟨a0, b0, c0⟩ := u0
      simp at e0 f1 f2
      subst a0
      subst f1 f2
      rw [h1, h2] at N0
      have hr' : RowV w g 24 [.bool l, .slice A ks.length c, .slice B vs.length d] := hr
      rw [h1, h2] at hr'
      exact ⟨g, A, c, B, d, e, hr', N0⟩
theorem ListD.none {w : World} {base : Nat} {v : Value} (h : ListD w base v []) : ∃ A, v = .slice A 0 0 := by
  rcases h with ⟨rfl, _⟩ | ⟨g, us, e, _⟩
  · exact ⟨_, rfl⟩
  · exact ⟨_, e⟩
theorem OwnD.ex {w : World} {base : Nat} {v : Value} {l : Bool} {ks vs : List UInt64} {n m : Nat} (h : OwnD w base v l ks vs) (hk : ks.length = n) (hv : vs.length = m) : ∃ A c B d, v = .agg #[.bool l, .slice A n c, .slice B m d] ∧ Nd w A n c B m d ks vs := by
  obtain ⟨A, c, B, d, e, h⟩ := h.nd
  rw [hk, hv] at e h
  exact ⟨A, c, B, d, e, h⟩
theorem same_yes (l : Bool) {w : World} {A B A' B' : Option Addr} {n c m d n' c' m' d' : Nat} {ks vs : List UInt64} (h : Nd w A n c B m d ks vs) (h' : Nd w A' n' c' B' m' d' ks vs) :
    Calls Try.prog 16 #[.agg #[.bool l, .slice A n c, .slice B m d], .agg #[.bool l, .slice A' n' c', .slice B' m' d']] w fun e w' => e = .returned (.bool true) ∧ Below w.heap.size w w' := by
  refine (same_any l l h h').mono ?_
  rintro e w' ⟨rfl, k⟩
  exact ⟨by rw [decide_eq_true (show l = l ∧ ks = ks ∧ vs = vs from ⟨rfl, rfl, rfl⟩)], k⟩
theorem nd_take {w : World} {A B : Option Addr} {n c d : Nat} {ks vs : List UInt64} (h : Nd w A n c B n d ks vs) {k : Nat} (hk : k ≤ n) : Nd w A k c B k d (ks.take k) (vs.take k) :=
  ⟨by rw [List.length_take, h.kl]; omega, by rw [List.length_take, h.vl]; omega, Nat.le_trans hk h.kc, h.km, Nat.le_trans hk h.vc, h.vm, h.ks.pre k, h.vs.pre k⟩

/-- Those ahead of k, and those behind it. -/
structure Sp (k : UInt64) (P S : List UInt64) : Prop where
  lt : ∀ x ∈ P, x.toNat < k.toNat
  gt : ∀ x ∈ S, k.toNat < x.toNat
theorem Sp.low_mid {k : UInt64} {P S : List UInt64} (h : Sp k P S) : low (P ++ k :: S) k = P.length := by
  unfold low
  rw [List.countP_append, List.countP_cons_of_neg (by simp), List.countP_eq_length.2 (fun x hx => by simpa using h.lt x hx), List.countP_eq_zero.2 (fun x hx => by have := h.gt x hx; simp; omega)]
  rfl
theorem Sp.low_gap {k : UInt64} {P S : List UInt64} (h : Sp k P S) : low (P ++ S) k = P.length := by
  unfold low
  rw [List.countP_append, List.countP_eq_length.2 (fun x hx => by simpa using h.lt x hx), List.countP_eq_zero.2 (fun x hx => by have := h.gt x hx; simp; omega)]
  rfl
theorem Sp.not_gap {k : UInt64} {P S : List UInt64} (h : Sp k P S) : k ∉ P ++ S := by
  intro hm
  rcases List.mem_append.1 hm with hm | hm
  · have := h.lt k hm; omega
  · have := h.gt k hm; omega
theorem mem_mid (k : UInt64) (P S : List UInt64) : k ∈ P ++ k :: S := by simp
theorem Sp.upto_mid {k : UInt64} {P S : List UInt64} (h : Sp k P S) : upto (P ++ k :: S) k = P.length + 1 := by
  unfold upto
  rw [h.low_mid, if_pos (mem_mid k P S)]
theorem Sp.upto_gap {k : UInt64} {P S : List UInt64} (h : Sp k P S) : upto (P ++ S) k = P.length := by
  unfold upto
  rw [h.low_gap, if_neg h.not_gap, Nat.add_zero]
theorem cut_mid {k : UInt64} {P S os : List UInt64} {n : Nat} (hn : P.length = n) : cutIn (P ++ k :: S) n (n + 1) os = P ++ os ++ S := by
  unfold cutIn
  rw [List.take_append_of_le_length (by omega), List.take_of_length_le (by omega), List.drop_append, List.drop_of_length_le (by omega), show n + 1 - P.length = 1 by omega]
  rfl
theorem cut_gap {P S os : List UInt64} {n : Nat} (hn : P.length = n) : cutIn (P ++ S) n n os = P ++ os ++ S := by
  unfold cutIn
  rw [List.take_append_of_le_length (by omega), List.take_of_length_le (by omega), List.drop_append, List.drop_of_length_le (by omega), show n - P.length = 0 by omega]
  rfl
theorem rises_mid {k : UInt64} {P S : List UInt64} (h : Rises (P ++ S)) (s : Sp k P S) : Rises (P ++ k :: S) := by
  unfold Rises at *
  rw [List.pairwise_append] at *
  refine ⟨h.1, ?_, fun a ha b hb => ?_⟩
  · rw [List.pairwise_cons]
    exact ⟨fun b hb => s.gt b hb, h.2.1⟩
  · rcases List.mem_cons.1 hb with rfl | hb
    · exact s.lt a ha
    · exact h.2.2 a ha b hb
theorem rises_gap {k : UInt64} {P S : List UInt64} (h : Rises (P ++ k :: S)) : Rises (P ++ S) := by
  unfold Rises at *
  rw [List.pairwise_append] at *
  exact ⟨h.1, (List.pairwise_cons.1 h.2.1).2, fun a ha b hb => h.2.2 a ha b (List.mem_cons_of_mem _ hb)⟩
theorem sp_of {k : UInt64} {P S : List UInt64} (h : Rises (P ++ k :: S)) : Sp k P S := by
  unfold Rises at h
  rw [List.pairwise_append] at h
  exact ⟨fun x hx => h.2.2 x hx k List.mem_cons_self, fun x hx => (List.pairwise_cons.1 h.2.1).1 x hx⟩
theorem around_gap (k : UInt64) : ∀ (ks vs : List UInt64), vs.length = ks.length → Rises ks → k ∉ ks → ∃ P S PV SV, Sp k P S ∧ PV.length = P.length ∧ SV.length = S.length ∧ ks = P ++ S ∧ vs = PV ++ SV
  | [], vs, hl, _, _ => by
    have : vs = [] := List.eq_nil_of_length_eq_zero (by simpa using hl)
    subst this
    exact ⟨[], [], [], [], ⟨by simp, by simp⟩, rfl, rfl, rfl, rfl⟩
  | a :: ks, [], hl, _, _ => by simp at hl
  | a :: ks, v :: vs, hl, hr, hk => by
    unfold Rises at hr
    rw [List.pairwise_cons] at hr
    have hne : a.toNat ≠ k.toNat := fun e => hk (by rw [UInt64.toNat_inj.1 e]; exact List.mem_cons_self)
    by_cases h : a.toNat < k.toNat
    · obtain ⟨P, S, PV, SV, s, h1, h2, rfl, rfl⟩ := around_gap k ks vs (by simpa using hl) hr.2 (fun q => hk (List.mem_cons_of_mem _ q))
      exact ⟨a :: P, S, v :: PV, SV, ⟨fun x hx => by
        rcases List.mem_cons.1 hx with rfl | hx
        · exact h
        · exact s.lt x hx, s.gt⟩, by simp [h1], h2, rfl, rfl⟩
    · exact ⟨[], a :: ks, [], v :: vs, ⟨by simp, fun x hx => by
        rcases List.mem_cons.1 hx with rfl | hx
        · omega
        · have := hr.1 x hx
          omega⟩, rfl, hl, rfl, rfl⟩
/-- A right node around a key. -/
theorem around {l : Bool} {ks vs : List UInt64} (h : Ok l ks vs) (k : UInt64) : ∃ P S PV SV, Sp k P S ∧ PV.length = P.length ∧ SV.length = S.length ∧ ((k ∈ ks ∧ ks = P ++ k :: S ∧ ∃ v, vs = PV ++ v :: SV) ∨ (k ∉ ks ∧ ks = P ++ S ∧ vs = PV ++ SV)) := by
  obtain ⟨h7, hl, hr, _⟩ := h
  by_cases hk : k ∈ ks
  · obtain ⟨i, hi, rfl⟩ := List.mem_iff_getElem.1 hk
    have e := get_split ks i hi
    have e2 := get_split vs i (by omega)
    refine ⟨ks.take i, ks.drop (i + 1), vs.take i, vs.drop (i + 1), sp_of (by rw [← e]; exact hr), by simp [hl], by simp [hl], .inl ⟨hk, e, _, e2⟩⟩
  · obtain ⟨P, S, PV, SV, s, h1, h2, h3, h4⟩ := around_gap k ks vs hl hr hk
    exact ⟨P, S, PV, SV, s, h1, h2, .inr ⟨hk, h3, h4⟩⟩
theorem look_mid {k v : UInt64} {P S PV SV : List UInt64} (s : Sp k P S) (hp : PV.length = P.length) (x : UInt64) : look (P ++ k :: S) (PV ++ v :: SV) x = if x = k then some v else look (P ++ S) (PV ++ SV) x := by
  unfold look
  rw [List.zip_append hp.symm, List.zip_append hp.symm, List.zip_cons_cons, List.find?_append, List.find?_append, List.find?_cons]
  by_cases e : x = k
  · subst e
    have hn : (P.zip PV).find? (fun p => p.1 == x) = none := by
      rw [List.find?_eq_none]
      intro p hp
      have h1 := s.lt p.1 (List.of_mem_zip hp).1
      simp only [beq_iff_eq]
      intro e3
      rw [e3] at h1
      omega
    rw [hn]
    simp
  · have : (k == x) = false := by simp [Ne.symm e]
    rw [this, if_neg e]
theorem look_gap {k : UInt64} {P S PV SV : List UInt64} (s : Sp k P S) : look (P ++ S) (PV ++ SV) k = none := by
  unfold look
  rw [Option.map_eq_none_iff, List.find?_eq_none]
  intro p hp
  have h1 := (List.of_mem_zip hp).1
  simp only [beq_iff_eq]
  intro e3
  rw [e3] at h1
  exact s.not_gap h1
theorem ok_mid {l : Bool} {k v : UInt64} {P S PV SV : List UInt64} (h7 : P.length + S.length < 7) (hp : PV.length = P.length) (hs : SV.length = S.length) (hr : Rises (P ++ k :: S)) : Ok l (P ++ k :: S) (PV ++ v :: SV) :=
  ⟨by simp; omega, by simp; omega, hr, .inr (by simp; omega)⟩
theorem ok_gap {l : Bool} {k : UInt64} {P S PV SV : List UInt64} (h7 : P.length + S.length ≤ 7) (hp : PV.length = P.length) (hs : SV.length = S.length) (hr : Rises (P ++ S)) (hl : ¬ (l = false ∧ P.length + S.length = 0)) : Ok l (P ++ S) (PV ++ SV) :=
  ⟨by simp; omega, by simp; omega, hr, by
    cases l
    · have : P.length + S.length ≠ 0 := fun e => hl ⟨rfl, e⟩
      exact .inr (by simp; omega)
    · exact .inl rfl⟩
theorem putR_mid {l : Bool} {k v x : UInt64} {P S PV SV : List UInt64} (h : Ok l (P ++ k :: S) (PV ++ v :: SV)) (hp : PV.length = P.length) (s : Sp k P S) : putR l (P ++ k :: S) (PV ++ v :: SV) k x = ((l, P ++ k :: S, PV ++ x :: SV), true, 0) := by
  unfold putR
  rw [if_pos h, if_neg (fun q => q.1 (mem_mid k P S)), s.low_mid, s.upto_mid, cut_mid rfl, cut_mid hp, decide_eq_true (mem_mid k P S)]
  simp
theorem putR_gap {l : Bool} {k x : UInt64} {P S PV SV : List UInt64} (h : Ok l (P ++ S) (PV ++ SV)) (hp : PV.length = P.length) (s : Sp k P S) (hn : P.length + S.length < 7) : putR l (P ++ S) (PV ++ SV) k x = ((l, P ++ k :: S, PV ++ x :: SV), false, 0) := by
  unfold putR
  rw [if_pos h, if_neg (fun q => by have := q.2; simp at this; omega), s.low_gap, s.upto_gap, cut_gap rfl, cut_gap hp, decide_eq_false s.not_gap]
  simp
theorem putR_full {l : Bool} {k x : UInt64} {ks vs : List UInt64} (h : Ok l ks vs) (hk : k ∉ ks) (hn : ks.length = 7) : putR l ks vs k x = (zn, false, 120) := by
  unfold putR
  rw [if_pos h, if_pos ⟨hk, hn⟩]
theorem atR_mid {l : Bool} {k v : UInt64} {P S PV SV : List UInt64} (h : Ok l (P ++ k :: S) (PV ++ v :: SV)) (s : Sp k P S) : atR l (P ++ k :: S) (PV ++ v :: SV) k = (P.length, true, 0) := by
  unfold atR
  rw [if_pos h, if_neg (fun q => q.2 (mem_mid k P S)), s.low_mid, decide_eq_true (mem_mid k P S)]
theorem takeR_last {k v : UInt64} {P S PV SV : List UInt64} (h : Ok false (P ++ k :: S) (PV ++ v :: SV)) (hn : P.length + S.length = 0) : takeR false (P ++ k :: S) (PV ++ v :: SV) k = (zn, 0, 122) := by
  unfold takeR
  rw [if_pos h, if_pos (mem_mid k P S), if_pos ⟨rfl, by simp; omega⟩]
theorem takeR_mid {l : Bool} {k v : UInt64} {P S PV SV : List UInt64} (h : Ok l (P ++ k :: S) (PV ++ v :: SV)) (hp : PV.length = P.length) (s : Sp k P S) (hn : ¬ (l = false ∧ P.length + S.length = 0)) : takeR l (P ++ k :: S) (PV ++ v :: SV) k = ((l, P ++ S, PV ++ SV), v, 0) := by
  unfold takeR
  rw [if_pos h, if_pos (mem_mid k P S), if_neg (fun q => hn ⟨q.1, by have := q.2; simp at this; omega⟩), s.low_mid, s.upto_mid, cut_mid rfl, cut_mid hp]
  have : (PV ++ v :: SV).getD P.length 0 = v := by
    rw [List.getD_eq_getElem?_getD, ← hp]
    simp
  rw [this]
  simp
end Go.Proofs.Ytllopocekegljaa.No
