/- Several texts in one: BsX BsD BsA BsB BsC BsE BsF. (Written by bin/prune.py.) -/
import Derived.Deep.AppendLies
import Derived.Test.YtogchamogbendaaGreatQbi
import Derived.Test.YtogchamogbendaaGreatQbk
import Derived.Test.YtogchamogbendaaGreatQbo
import Derived.Test.YtogchamogbendaaGreatQbp
/- Mathematics: which pages a stage's run has placed, and that nothing else has a new count. -/
namespace Go.Proofs.YtogchamogbendaaGreat.Pl
set_option maxRecDepth 100000
open Go.RowKit Go.Proofs.YtogchamogbendaaGreat.Oct Go.Proofs.YtogchamogbendaaGreat.Mv Go.Proofs.YtogchamogbendaaGreat.Tl Go.Proofs.YtogchamogbendaaGreat.Pk Go.Maps
set_option linter.unusedVariables false

section
variable {q : Q} {l1 l2 : List Nat} {x y z : Wk}
theorem cdone_nil {f : List Bool} (h : ∀ i, f.getD i false = false) : doneL f = [] := by
  rcases hd : doneL f with _ | ⟨i, l⟩
  · rfl
  · have := mem_done.1 (show i ∈ doneL f by rw [hd]; exact List.mem_cons_self ..)
    rw [h] at this
    cases this
theorem Sound.cend (h : Sound q l1 l2) (hc : q.s.changed = []) : (begin q l1 l2).End := by
  constructor
  · intro j hj
    obtain ⟨h1, _, h2⟩ := hj
    have h1' : j < l1.length := h1
    rcases h2 with h2 | ⟨m, hm, _⟩
    · have := (h.one j (by rw [List.length_append]; omega)).1
      rw [getD_app1 _ _ _ h1'] at this
      exact this h2
    · rw [show (begin q l1 l2).q = q from rfl, hc] at hm
      cases hm
  · intro j hj
    obtain ⟨h1, _, h2⟩ := hj
    have h1' : j < l2.length := h1
    rcases h2 with h2 | ⟨m, hm, _⟩
    · have := (h.one (l1.length + j) (by rw [List.length_append]; omega)).1
      rw [getD_app2] at this
      exact this h2
    · have := mem_done.1 hm
      rw [show (begin q l1 l2).f1 = List.replicate l1.length false from rfl, getD_rep] at this
      cases this
theorem cbegin_done : doneL (begin q l1 l2).f1 = [] ∧ doneL (begin q l1 l2).f2 = [] := ⟨cdone_nil fun i => getD_rep _ _, cdone_nil fun i => getD_rep _ _⟩
theorem Anew.in1 (h : Anew q l1 l2 y) {i : Nat} (hi : i ∈ doneL y.f1) : i < y.l1.length := by
  have := mem_done_lt hi
  rw [h.good.fl1] at this
  exact this
theorem Anew.in2 (h : Anew q l1 l2 y) {i : Nat} (hi : i ∈ doneL y.f2) : i < y.l2.length := by
  have := mem_done_lt hi
  rw [h.good.fl2] at this
  exact this
/-- A page that was not placed stays. -/
theorem Anew.stay1 (h : Anew q l1 l2 y) {i : Nat} (hi : i < l1.length) (hn : i ∉ doneL y.f1) : y.l1.getD i 0 = l1.getD i 0 := by
  have hy : i < y.l1.length := by rw [h.len1]; exact hi
  have hf : y.f1.getD i false = false := by
    rcases hb : y.f1.getD i false with _ | _
    · rfl
    · exact absurd (mem_done.2 hb) hn
  have hu := (h.ri.un i (by rw [List.length_append]; omega) (by rw [getD_app1 _ _ _ (by rw [h.good.fl1]; exact hy)]; exact hf)).1
  rw [getD_app1 _ _ _ hy, getD_app1 _ _ _ hi] at hu
  exact hu
theorem Anew.stay2 (h : Anew q l1 l2 y) {i : Nat} (hi : i < l2.length) (hn : i ∉ doneL y.f2) : y.l2.getD i 0 = l2.getD i 0 := by
  have hy : i < y.l2.length := by rw [h.len2]; exact hi
  have hf : y.f2.getD i false = false := by
    rcases hb : y.f2.getD i false with _ | _
    · rfl
    · exact absurd (mem_done.2 hb) hn
  have hu := (h.ri.un (y.l1.length + i) (by rw [List.length_append]; omega) (by rw [← h.good.fl1, getD_app2]; exact hf)).1
  rw [getD_app2, h.len1, getD_app2] at hu
  exact hu
/-- Where a count has changed its page was placed. -/
theorem Anew.tell1 (h : Anew q l1 l2 y) {m : Nat} (hm : m ∈ y.q.s.changed) : m / 61 ∈ doneL y.f1 := by
  have hlt := (mem_changed.1 hm).1
  have hl : m / 61 < y.l1.length := by rw [h.good.len1]; unfold pg; omega
  rcases hb : y.f1.getD (m / 61) false with _ | _
  · exact absurd ⟨hl, hb, .inr ⟨m, hm, rfl⟩⟩ (h.end'.one (m / 61))
  · exact mem_done.2 hb
/-- Where a page of counts was placed, that of its place was. -/
theorem Anew.tell2 (h : Anew q l1 l2 y) {i : Nat} (hi : i ∈ doneL y.f1) : i / 61 ∈ doneL y.f2 := by
  have hil := h.in1 hi
  have hl2 : i / 61 < y.l2.length := by
    rw [h.good.len2]
    rw [h.good.len1] at hil
    generalize pg y.q.s.n = p at *
    unfold pg
    omega
  rcases hb : y.f2.getD (i / 61) false with _ | _
  · exact absurd ⟨hl2, hb, .inr ⟨i, hi, rfl⟩⟩ (h.end'.two (i / 61))
  · exact mem_done.2 hb
/-- A page that was placed stands where nothing stood, then and ahead. -/
structure New0 (q0 : Q) (L0 : List Nat) (x : Wk) : Prop where
  oth : ∀ j, (∀ i, i < L0.length → L0.getD i 0 ≠ j) → (∀ i, i < (x.l1 ++ x.l2).length → (x.l1 ++ x.l2).getD i 0 ≠ j) → x.q.s.cnt j = q0.s.cnt j
  new : ∀ i, i < (x.l1 ++ x.l2).length → (x.f1 ++ x.f2).getD i false = true → q0.s.cnt ((x.l1 ++ x.l2).getD i 0) = 0 ∧ q0.s.was ((x.l1 ++ x.l2).getD i 0) = 0 ∧ q0.first ≤ (x.l1 ++ x.l2).getD i 0
theorem new_move {q0 q q' : Q} {L0 L : List Nat} {F : List Bool} {i b : Nat} (hbs : Base q0 L0) (h : RInv q0 L0 q L F) (hL0 : ∀ i, i < L0.length → L0.getD i 0 ≠ 0 ∧ q0.s.was (L0.getD i 0) ≠ 0)
    (ho : ∀ j, (∀ i, i < L0.length → L0.getD i 0 ≠ j) → (∀ i, i < L.length → L.getD i 0 ≠ j) → q.s.cnt j = q0.s.cnt j)
    (hnw : ∀ i, i < L.length → F.getD i false = true → q0.s.cnt (L.getD i 0) = 0 ∧ q0.s.was (L.getD i 0) = 0 ∧ q0.first ≤ L.getD i 0)
    (hl : Loose q L F) (hok : q.Ok) (hi : i < L.length) (hf : F.getD i false = false) (hm : Moved q (L.getD i 0) q' b) :
    (∀ j, (∀ k, k < L0.length → L0.getD k 0 ≠ j) → (∀ k, k < (L.set i b).length → (L.set i b).getD k 0 ≠ j) → q'.s.cnt j = q0.s.cnt j) ∧
    (∀ k, k < (L.set i b).length → (F.set i true).getD k false = true → q0.s.cnt ((L.set i b).getD k 0) = 0 ∧ q0.s.was ((L.set i b).getD k 0) = 0 ∧ q0.first ≤ (L.set i b).getD k 0) := by
  have may := hl.may i hi hf
  obtain ⟨hb1, hb2⟩ := hm.free
  rw [down1_was q _ may] at hb2
  have hge := hm.ge may hok
  have hu := (h.un i hi hf).1
  have h0i : i < L0.length := by rw [← h.lenL]; exact hi
  have getF : ∀ j, (F.set i true).getD j false = if j = i then true else F.getD j false := fun j => by
    rw [getD_set]
    by_cases e : j = i
    · rw [if_pos ⟨e, by rw [h.lenF]; exact hi⟩, if_pos e]
    · rw [if_neg (fun k => e k.1), if_neg e]
  have getL : ∀ j, (L.set i b).getD j 0 = if j = i then b else L.getD j 0 := fun j => by
    rw [getD_set]
    by_cases e : j = i
    · rw [if_pos ⟨e, hi⟩, if_pos e]
    · rw [if_neg (fun k => e k.1), if_neg e]
  have bL0 : ∀ k, k < L0.length → L0.getD k 0 ≠ b := fun k hk e => by
    have := (hL0 k hk).2
    rw [e, ← h.was] at this
    exact this hb2
  have bL : ∀ k, k < L.length → L.getD k 0 ≠ b := fun k hk e => by
    by_cases ek : k = i
    · subst ek
      exact bL0 k h0i (hu ▸ e)
    · rcases hF : F.getD k false with _ | _
      · exact bL0 k (by rw [← h.lenL]; exact hk) ((h.un k hk hF).1 ▸ e)
      · have h1 := (h.pl k hk hF).2.2.1
        have hne := h.ne k i hk hi ek hF
        rw [e] at h1 hne
        rw [down1_cnt may, if_neg (fun q => hne q.1), h1] at hb1
        exact absurd hb1 (by decide)
  have hob : q.s.cnt b = q0.s.cnt b := ho b bL0 bL
  refine ⟨fun j k0 k1 => ?_, fun k hk hF => ?_⟩
  · have jb : j ≠ b := fun e => k1 i (by rw [List.length_set]; exact hi) (by rw [getL, if_pos rfl, e])
    have jo : j ≠ L.getD i 0 := fun e => k0 i h0i (by rw [e, hu])
    rw [hm.cnt may, if_neg jb, down1_cnt may, if_neg (fun q => jo q.1)]
    refine ho j k0 fun k hk e => ?_
    by_cases ek : k = i
    · subst ek
      exact jo e.symm
    · exact k1 k (by rw [List.length_set]; exact hk) (by rw [getL, if_neg ek, e])
  · rw [List.length_set] at hk
    rw [getL]
    rw [getF] at hF
    by_cases ek : k = i
    · subst ek
      rw [if_pos rfl]
      rw [down1_cnt may, if_neg (fun q => bL0 k h0i (by rw [← hu]; exact q.1.symm)), hob] at hb1
      rw [h.was] at hb2
      rw [h.first] at hge
      exact ⟨hb1, hb2, hge⟩
    · rw [if_neg ek] at hF ⊢
      exact hnw k hk hF
theorem Wk.Step.new0 {q0 : Q} {L0 : List Nat} (h : x.Step y) (hg : x.Good) (hb : Base q0 L0) (hr : x.RI q0 L0) (hL0 : ∀ i, i < L0.length → L0.getD i 0 ≠ 0 ∧ q0.s.was (L0.getD i 0) ≠ 0) (hn : New0 q0 L0 x) : New0 q0 L0 y := by
  cases h with
  | one i b q' k1 k2 =>
    obtain ⟨hi, hf, _⟩ := k1.ask
    have e1 : (x.l1 ++ x.l2).getD i 0 = x.l1.getD i 0 := getD_app1 _ _ _ hi
    have e2 : (x.f1 ++ x.f2).getD i false = x.f1.getD i false := getD_app1 _ _ _ (by rw [hg.fl1]; exact hi)
    obtain ⟨m1, m2⟩ := new_move hb hr hL0 hn.oth hn.new hg.loose hg.ok (i := i) (by rw [List.length_append]; omega) (by rw [e2]; exact hf) (by rw [e1]; exact k2)
    have s1 : (x.l1 ++ x.l2).set i b = x.l1.set i b ++ x.l2 := List.set_append_left _ _ hi
    have s2 : (x.f1 ++ x.f2).set i true = x.f1.set i true ++ x.f2 := List.set_append_left _ _ (by rw [hg.fl1]; exact hi)
    rw [s1] at m1 m2
    rw [s2] at m2
    exact ⟨m1, m2⟩
  | two i b q' k0 k1 k2 =>
    obtain ⟨hi, hf, _⟩ := k1.ask
    have e1 : (x.l1 ++ x.l2).getD (x.l1.length + i) 0 = x.l2.getD i 0 := getD_app2 _ _ _ _
    have e2 : (x.f1 ++ x.f2).getD (x.l1.length + i) false = x.f2.getD i false := by rw [← hg.fl1]; exact getD_app2 _ _ _ _
    obtain ⟨m1, m2⟩ := new_move hb hr hL0 hn.oth hn.new hg.loose hg.ok (i := x.l1.length + i) (by rw [List.length_append]; omega) (by rw [e2]; exact hf) (by rw [e1]; exact k2)
    have s1 : (x.l1 ++ x.l2).set (x.l1.length + i) b = x.l1 ++ x.l2.set i b := by rw [List.set_append_right _ _ (by omega)]; congr 2; omega
    have s2 : (x.f1 ++ x.f2).set (x.l1.length + i) true = x.f1 ++ x.f2.set i true := by rw [← hg.fl1, List.set_append_right _ _ (by omega)]; congr 2; omega
    rw [s1] at m1 m2
    rw [s2] at m2
    exact ⟨m1, m2⟩
theorem Wk.Runs.new0 {q0 : Q} {L0 : List Nat} (h : x.Runs y) (hg : x.Good) (hb : Base q0 L0) (hr : x.RI q0 L0) (hL0 : ∀ i, i < L0.length → L0.getD i 0 ≠ 0 ∧ q0.s.was (L0.getD i 0) ≠ 0) (hn : New0 q0 L0 x) : New0 q0 L0 y := by
  induction h with
  | done _ => exact hn
  | step s r ih => exact ih (hg.step s) (s.ri hg hb hr) (s.new0 hg hb hr hL0 hn)
theorem Anew.new0 (h : Anew q l1 l2 y) (hs : Sound q l1 l2) (hroom : need q.s.n ≤ q.room) : New0 q (l1 ++ l2) y := by
  refine h.runs.new0 (begin_good hs.ok hs.right hroom) hs.base hs.ri (fun i hi => ⟨(hs.one i hi).1, by rw [(hs.one i hi).2.2.2]; decide⟩) ⟨fun j _ _ => rfl, fun i hi hf => ?_⟩
  exfalso
  rw [show (begin q l1 l2).f1 ++ (begin q l1 l2).f2 = List.replicate l1.length false ++ List.replicate l2.length false from rfl, List.replicate_append_replicate, getD_rep] at hf
  cases hf
/-! ### How many blocks have no count -/
def St.zero (s : St) (i : Nat) : Bool := s.cnt i == 0
def zeroQ (q : Q) : Nat := (List.range' q.first (q.s.n - q.first)).countP (St.zero q.s)
theorem countP_one {p r : Nat → Bool} {b : Nat} (hp : p b = true) (hr : r b = false) (he : ∀ j, j ≠ b → r j = p j) (f : Nat) : ∀ m, f ≤ b → (List.range' f m).countP p = (List.range' f m).countP r + if b < f + m then 1 else 0
  | 0, _ => by rw [if_neg (by omega)]; rfl
  | m + 1, h => by
    have ih := countP_one hp hr he f m h
    rw [List.range'_concat, List.countP_append, List.countP_append, ih]
    simp only [List.countP_cons, List.countP_nil, Nat.one_mul]
    by_cases e : f + m = b
    · have a1 : (if b < f + m then 1 else 0) = (0 : Nat) := if_neg (by omega)
      have a2 : (if b < f + (m + 1) then 1 else 0) = (1 : Nat) := if_pos (by omega)
      rw [a1, a2, e, hp, hr]
      simp
    · rw [he _ e]
      have : (if b < f + m then 1 else 0) = (if b < f + (m + 1) then 1 else 0 : Nat) := by split <;> split <;> omega
      rw [this]
      omega
theorem Moved.zero {q q' : Q} {old b : Nat} (h : Moved q old q' b) (hok : q.Ok) (h0 : old ≠ 0) (hm : May1 q old) (h1 : q.s.cnt old = 1) (hf : q.first ≤ old) : zeroQ q' = zeroQ q := by
  have hlt := (hm h0).1
  obtain ⟨hb1, _⟩ := h.free
  have hbl := h.lt hm
  have hbf := h.ge hm hok
  have c1 : ∀ j, (down1 q old).s.cnt j = if j = old then 0 else q.s.cnt j := fun j => by
    rw [down1_cnt hm]
    by_cases e : j = old
    · rw [if_pos ⟨e, h0⟩, if_pos e, e, h1]; rfl
    · rw [if_neg (fun k => e k.1), if_neg e]
  have k1 := countP_one (p := St.zero (down1 q old).s) (r := St.zero q.s) (b := old) (by unfold St.zero; rw [c1, if_pos rfl]; rfl) (by unfold St.zero; rw [h1]; rfl) (fun j hj => by unfold St.zero; rw [c1, if_neg hj]) q.first (q.s.n - q.first) hf
  have k2 := countP_one (p := St.zero (down1 q old).s) (r := St.zero q'.s) (b := b) (by unfold St.zero; rw [hb1]; rfl) (by unfold St.zero; rw [h.cnt hm, if_pos rfl]; rfl) (fun j hj => by unfold St.zero; rw [h.cnt hm, if_neg hj]) q.first (q.s.n - q.first) hbf
  rw [if_pos (by omega)] at k1 k2
  unfold zeroQ
  rw [h.first, h.n hm]
  omega
theorem Wk.Step.zero {q0 : Q} {L0 : List Nat} (h : x.Step y) (hg : x.Good) (hr : x.RI q0 L0) (hL0 : ∀ i, i < L0.length → L0.getD i 0 ≠ 0 ∧ q0.first ≤ L0.getD i 0) : zeroQ y.q = zeroQ x.q := by
  cases h with
  | one i b q' k1 k2 =>
    obtain ⟨hi, hf, _⟩ := k1.ask
    have e1 : (x.l1 ++ x.l2).getD i 0 = x.l1.getD i 0 := getD_app1 _ _ _ hi
    have e2 : (x.f1 ++ x.f2).getD i false = x.f1.getD i false := getD_app1 _ _ _ (by rw [hg.fl1]; exact hi)
    have hil : i < (x.l1 ++ x.l2).length := by rw [List.length_append]; omega
    obtain ⟨u1, u2⟩ := hr.un i hil (by rw [e2]; exact hf)
    rw [e1] at u1 u2
    have hz := hL0 i (by rw [← hr.lenL]; exact hil)
    rw [← u1] at hz
    exact k2.zero hg.ok hz.1 (hg.may1 hi hf) (u2 hz.1) (by rw [hr.first]; exact hz.2)
  | two i b q' k0 k1 k2 =>
    obtain ⟨hi, hf, _⟩ := k1.ask
    have e1 : (x.l1 ++ x.l2).getD (x.l1.length + i) 0 = x.l2.getD i 0 := getD_app2 _ _ _ _
    have e2 : (x.f1 ++ x.f2).getD (x.l1.length + i) false = x.f2.getD i false := by rw [← hg.fl1]; exact getD_app2 _ _ _ _
    have hil : x.l1.length + i < (x.l1 ++ x.l2).length := by rw [List.length_append]; omega
    obtain ⟨u1, u2⟩ := hr.un (x.l1.length + i) hil (by rw [e2]; exact hf)
    rw [e1] at u1 u2
    have hz := hL0 (x.l1.length + i) (by rw [← hr.lenL]; exact hil)
    rw [← u1] at hz
    exact k2.zero hg.ok hz.1 (hg.may2 hi hf) (u2 hz.1) (by rw [hr.first]; exact hz.2)
theorem Wk.Runs.zero {q0 : Q} {L0 : List Nat} (h : x.Runs y) (hg : x.Good) (hb : Base q0 L0) (hr : x.RI q0 L0) (hL0 : ∀ i, i < L0.length → L0.getD i 0 ≠ 0 ∧ q0.first ≤ L0.getD i 0) : zeroQ y.q = zeroQ x.q := by
  induction h with
  | done _ => rfl
  | step s r ih => exact (ih (hg.step s) (s.ri hg hb hr)).trans (s.zero hg hr hL0)
theorem room_le_zero (q : Q) : q.room ≤ zeroQ q := by
  unfold Q.room St.count zeroQ
  refine List.countP_mono_left fun a _ ha => ?_
  unfold St.free at ha
  unfold St.zero
  exact (Bool.and_eq_true _ _ ▸ ha).1
theorem room_keep (q : Q) : (Q.keep q).room = zeroQ q := by
  unfold Q.room St.count zeroQ
  show (List.range' q.first (q.s.n - q.first)).countP (St.free q.s.keep) = _
  congr 1
  funext j
  unfold St.free St.zero
  show (q.s.cnt j == 0 && q.s.cnt j == 0) = _
  cases (q.s.cnt j == 0) <;> rfl
end
end Go.Proofs.YtogchamogbendaaGreat.Pl
/- Write and Flush of a disk with all its power: of what was there the disk's own blocks alone have turned. (Written by bin/gen_bsd.py over the walks of DskH and DskE.) -/
namespace Go.Proofs.YtogchamogbendaaGreat.Dsk
set_option maxRecDepth 100000
open Go.RowKit Go.Proofs.YtogchamogbendaaGreat.Oct
set_option linter.unusedVariables false
set_option linter.unusedSimpArgs false

/-- Of what was there block a, and the block of the row wv, alone may have turned; those are of a disk's types, from base on. -/
structure TurnO (base a : Nat) (wv : Value) (w w' : World) : Prop where
  t : Turned dT base w w'
  block : ∀ k, k < w.heap.size → k ≠ a → wv.ownBlock ≠ some k → w'.heap[k]? = w.heap[k]?
theorem TurnO.trans {base a : Nat} {wv : Value} {x y z : World} (h : TurnO base a wv x y) (k : TurnO base a wv y z) : TurnO base a wv x z :=
  ⟨h.t.trans k.t, fun j hj h1 h2 => (k.block j (Nat.lt_of_lt_of_le hj h.t.size) h1 h2).trans (h.block j hj h1 h2)⟩
theorem TurnO.of_below {base a : Nat} {wv : Value} {w w' : World} (h : Below w.heap.size w w') : TurnO base a wv w w' :=
  ⟨Turned.of_below h, fun j hj _ _ => h.block j hj⟩
theorem TurnO.refl (base a : Nat) (wv : Value) (w : World) : TurnO base a wv w w := ⟨Turned.refl _ _ _, fun _ _ _ _ => rfl⟩
theorem TurnO.drew {base a : Nat} {wv : Value} {x y : World} (h : TurnO base a wv x y) : TurnO base a wv x y.drew := ⟨h.t.drew, h.block⟩
theorem calm_spent {s : St} (hg : s.gone = false) (ha : s.armed = false) : s.spent = s := by
  obtain ⟨n, B, W, g, m, l⟩ := s
  simp only at hg ha
  subst hg; subst ha
  rfl
theorem spend_calm {w : World} {base a bb bc : Nat} {wv : Value} {s : St} (h : At w base a bb bc wv s) (hg : s.gone = false) (ha : s.armed = false) :
    Calls Tryz.prog 107 #[.pointer (some ⟨a, 2, none⟩)] w fun e w' => e = .returned (.bool true) ∧ At w' base a bb bc wv s ∧ TurnO base a wv w w' := by
  have c2 := h.c2
  have c3 := h.c3
  have c4 := h.c4
  have H := Lib.hid h
  rw [ha] at c3
  clear h
  go_enter Tryz.func107, Tryz.ntmps107
  go_wp2
  go_ret
  exact ⟨rfl, H.out, TurnO.refl _ _ _ _⟩
theorem wroteO {w w' : World} {base a bb bc : Nat} {wv v' : Value} {s : St} (h : At w base a bb bc wv s) (p : Nat) (bs : List UInt8) (hp : p < s.n) (hl : bs.length = 128) (hf : s.W.length < 1000000)
    (hown : w'.ownsRow base 158 129 v' (s.W.length + 1) (wcells s.W ++ (pc p bs).toList)) (hg : w.grownBy w' wv.ownBlock) :
    At (w'.setCell ⟨a, 1, none⟩ v') base a bb bc v' (s.wrote p bs) ∧ w'.cell? ⟨a, 1, none⟩ = some wv ∧ w'.frozen? ⟨a, 1, none⟩ = false ∧ TurnO base a wv w (w'.setCell ⟨a, 1, none⟩ v') := by
  obtain ⟨h1, h2, h3, h4⟩ := h.wrote p bs hp hl hf hown hg
  exact ⟨h1, h2, h3, h4, fun k hk k1 k2 => (heap_setCell_other _ _ _ _ k1).trans (hg.block k hk fun e => k2 e.symm)⟩
/-- The row of what waits lies where it lay, or in new memory. -/
def WriteO (w : World) (base a bb bc : Nat) (wv : Value) (s' : St) (e : Ending) (w' : World) : Prop := ∃ wv', e = .returned (.int .i64 0) ∧ At w' base a bb bc wv' s' ∧ TurnO base a wv w w' ∧ ∀ k, wv'.ownBlock = some k → wv.ownBlock = some k ∨ w.heap.size ≤ k

set_option maxRecDepth 100000 in
set_option maxHeartbeats 1600000 in
theorem write_calm {w : World} {base a bb bc : Nat} {wv : Value} {s : St} (h : At w base a bb bc wv s) (hg : s.gone = false) (ha : s.armed = false) (hfew : s.W.length < 1000000) (p : Nat) (hp : p < s.n) (ba : Option Addr) (bcap : Nat) (bs : List UInt8) (hl : bs.length = 128) (hb : ∀ w', TurnO base a wv w w' → Oct.Told w' ba bs) :
    Calls Tryz.prog 46 #[.pointer (some ⟨a, 0, none⟩), .int .i64 (p : Int), .slice ba 128 bcap] w (WriteO w base a bb bc wv (s.wrote p bs)) := by
  have c0 := h.c0
  have c2 := h.c2
  rw [hg] at c2
  have c5 := h.c5
  have H := Lib.hid h
  have HG := Lib.hid hg
  have HAR := Lib.hid ha
  have HL := Lib.hid hl
  have HB := Lib.hid hb
  clear h hg ha hl hb
  go_enter Tryz.func46, Tryz.ntmps46
  go_wp2_with fail
  refine (made_self a _ c5).mono ?_
  rintro e w' ⟨rfl, rfl⟩
  go_wp2_with fail
  refine (has_yes a bb s.n bc p _ c0 (by omega) (by omega)).mono ?_
  rintro e w' ⟨rfl, rfl⟩
  go_wp2_with fail
  refine (spend_calm H.out HG.out HAR.out).mono ?_
  rintro e w1 ⟨rfl, A1, T1⟩
  have hfew1 : s.W.length < 1000000 := hfew
  have hp1 : p < s.n := hp
  obtain ⟨s1, hs1⟩ : ∃ x, x = s := ⟨_, rfl⟩
  rw [← hs1] at A1 hfew1 hp1 ⊢
  have HS1 := Lib.hid hs1
  clear hs1
  clear c0 c2 c5
  -- the local variable w, a block of its own
  have b2 : Below w1.heap.size w1 (w1.alloc (.cells (pz p) 158)) := (Below.refl _ _).alloc (Nat.le_refl _) _
  have R2 : (w1.alloc (.cells (pz p) 158)).heap[w1.heap.size]? = some (.cells (pz p).toList.toArray 158 (0, 0)) := heap_alloc_new w1 _
  have S2 : (w1.alloc (.cells (pz p) 158)).heap.size = w1.heap.size + 1 := by simp
  obtain ⟨w3, hcopy, R3, S3, b3⟩ := run_copy_into (w1.alloc (.cells (pz p) 158)) 3 w1.heap.size 1 128 128 _ _ R2 bs ba 128 bcap HL.out (HB.out _ (T1.trans (TurnO.of_below b2))) (by omega) (by simp [pz, pc, vals])
  have hsp : splice (pz p).toList 1 (vals bs) = (pc p bs).toList := by
    have := HL.out
    simp [splice, pz, pc, length_vals, this]
  rw [hsp] at R3
  have b13 : Below w1.heap.size w1 w3 := b2.trans (b3.mono (by omega))
  have A3 := A1.below b13
  have T3 : TurnO base a wv w w3 := T1.trans (TurnO.of_below b13)
  -- region 9
  have hz1 := (zero_of_info write_info).1 w1
  have hst := run_storeCells_new (P := Tryz.prog) w1 158 zc (pz p) (by rw [(zero_of_info write_info).2]; unfold pz; rw [pc_size]; simp) (by rw [zc_size]; unfold pz; rw [pc_size]; simp) (pc_one _ _)
  have hne := zc_ne
  have hzs := zc_size
  have hset := zc_set p
  have hps : (pz p).size = 129 := by unfold pz; rw [pc_size]; simp
  have HR3 := Lib.hid R3
  have HA3 := Lib.hid A3
  have HT3 := Lib.hid T3
  clear b2 R2 S2 R3 S3 b3 hsp b13 A3 T3 A1 T1
  go_wp2_with fail
  obtain ⟨q, hq⟩ : ∃ q, q = w1.heap.size := ⟨_, rfl⟩
  rw [← hq] at HR3 ⊢
  have HQ := Lib.hid hq
  clear hcopy hz1 hst hset hps hq hne hzs
  have c1 := HA3.out.c1
  obtain ⟨A, cap, hv, hwc, hm, hA⟩ := HA3.out.wform
  have HV := Lib.hid hv
  rw [hv] at c1
  have hps : (pc p bs).size = 129 := by rw [pc_size, HL.out]
  have HR4 := Lib.hid (show w3.drew.heap[q]? = some (.cells (pc p bs) 158 (0, 0)) from HR3.out)
  obtain ⟨ie, hie, hz0, hz1, hz2⟩ := info_parts write_row
  have hf : ∀ (cells : Array Value) (parts : List (Nat × Value)), cells.size = ie.size → parts = [(0, .agg (pc p bs))] → Instr.fill (fun i => some (i * ie.size, ie.size)) cells parts = some (pc p bs) := fun cells parts hcs hparts => by
    subst hparts
    rw [hz1]
    exact fill_one cells _ hps (by rw [hcs, hz1])
  have HF := Lib.hid hf
  have HIE := Lib.hid hie
  have HZ0 := Lib.hid hz0
  have HZ1 := Lib.hid hz1
  have HZ2 := Lib.hid hz2
  have HPS := Lib.hid hps
  have A4 := HA3.out.drew
  have T4 := HT3.out.drew
  have HM := Lib.hid hm
  clear hps hf hie hz0 hz1 hz2 hv hm hA
  have HA4 := Lib.hid A4
  have HT4 := Lib.hid T4
  have c1' : w3.drew.cell? ⟨a, 1, none⟩ = some (.slice A s1.W.length cap) := c1
  clear A4 T4 c1
  obtain ⟨w4, hw4⟩ : ∃ w4, w4 = w3.drew := ⟨_, rfl⟩
  refine wp_region_any (by kernel_rfl) ?_
  change wpAny _ _ _ _ _ _ _ (World.drew _)
  rw [← hw4] at HA4 HT4 c1' HR4 ⊢
  clear hw4
  refine wpAny_take (i := 0) (v := .pointer (some ⟨a, 0, none⟩)) rfl (by kernel_rfl) (by kernel_rfl) (by kernel_rfl) (fun _ _ _ h => h) (Or.inl ⟨rfl, fun w => by go_simp⟩) ?_
  refine wpAny_take (i := 1) (v := .pointer (some ⟨a, 0, none⟩)) rfl (by kernel_rfl) (by kernel_rfl) (by kernel_rfl) (fun _ _ _ h => h) (Or.inl ⟨rfl, fun w => by go_simp⟩) ?_
  refine wpAny_take (i := 2) (v := .pointer (some ⟨a, 0, none⟩)) rfl (by kernel_rfl) (by kernel_rfl) (by kernel_rfl) (fun _ _ _ h => h) (Or.inl ⟨rfl, fun w => by go_simp⟩) ?_
  refine wpAny_take (i := 3) (v := .pointer (some ⟨a, 1, none⟩)) rfl (by kernel_rfl) (by kernel_rfl) (by kernel_rfl) (fun _ _ _ h => h) (Or.inl ⟨rfl, fun w => by go_simp⟩) ?_
  refine wpAny_take (i := 4) (v := .pointer (some ⟨a, 1, none⟩)) rfl (by kernel_rfl) (by kernel_rfl) (by kernel_rfl) (fun _ _ _ h => h) (Or.inl ⟨rfl, fun w => by go_simp⟩) ?_
  simp only [Act.put, List.setIfInBounds_toArray, List.set_cons_zero, List.set_cons_succ]
  have B5 : Below w4.heap.size w4 (w4.alloc (.cells (pc p bs) 158)) := (Below.refl _ _).alloc (Nat.le_refl _) _
  have c15 : (w4.alloc (.cells (pc p bs) 158)).cell? ⟨a, 1, none⟩ = some (.slice A s1.W.length cap) := (B5.cell (p := ⟨a, 1, none⟩) HA4.out.lt).trans c1'
  have HB5 := Lib.hid B5
  clear B5
  refine wpAny_ready (rs := [5, 6]) (by kernel_rfl) (by simp) ?_
  refine AllReady.cons rfl (fun K hK => ?_) (AllReady.cons rfl (fun K hK => ?_) AllReady.nil)
  · go_simp
    refine hK _ _ ?_
    clear hK K
    try simp only [Act.put, List.setIfInBounds_toArray, List.set_cons_zero, List.set_cons_succ]
    refine wpAny_ready (rs := [6]) (by kernel_rfl) (by simp) ?_
    refine AllReady.cons rfl (fun K hK => ?_) AllReady.nil
    simp only [List.getElem_toArray, List.getElem_cons_succ, List.getElem_cons_zero]
    refine if_wanted (by rfl) ?_
    refine wp_load_row 158 (.tmp 7) rfl q rfl _ _ _ _ HR4.out Tryz.underlying158 rfl (by rw [HIE.out]; exact congrArg some (HZ1.out.trans HPS.out.symm)) ?_
    refine hK _ _ ?_
    clear hK K
    try simp only [Act.put, List.setIfInBounds_toArray, List.set_cons_zero, List.set_cons_succ]
    refine wpAny_ready (rs := [7]) (by kernel_rfl) (by simp) ?_
    refine AllReady.cons rfl (fun K hK => ?_) AllReady.nil
    simp only [List.getElem_toArray, List.getElem_cons_succ, List.getElem_cons_zero]
    refine if_wanted (by rfl) ?_
    refine wp_buildSlice 149 158 1 _ rfl (pc p bs) ie (.agg zc) Tryz.underlying149 HIE.out HZ0.out (by rw [HZ1.out]; decide) (by rw [HZ1.out]; decide) (HF.out _ _ (by simp) (by simp [Act.put, Act.eval])) ?_
    refine hK _ _ ?_
    clear hK K
    try simp only [Act.put, List.setIfInBounds_toArray, List.set_cons_zero, List.set_cons_succ]
    refine wpAny_tail 8 (by rfl) (by kernel_rfl) ?_
    simp only [List.drop_succ_cons, List.drop_zero]
    have A5 := HA4.out.below HB5.out
    have T5 : TurnO base a wv w4 (w4.alloc (.cells (pc p bs) 158)) := TurnO.of_below HB5.out
    have R5 := heap_alloc_new w4 (.cells (pc p bs) 158)
    obtain ⟨r, hr⟩ : ∃ r, r = w4.heap.size := ⟨_, rfl⟩
    rw [← hr] at R5 ⊢
    generalize w4.alloc (.cells (pc p bs) 158) = w5 at *
    obtain ⟨g6, cap6, w6, hrun, ho6, hg6, hlie, _⟩ := run_append_lies (P := Tryz.prog) (w := w5) 149 149 base 158 ie (.agg zc) 129 136 Tryz.underlying149 HIE.out HZ0.out HZ1.out HZ2.out zc_size (by decide) wv s1.W.length (wcells s1.W) A5.waits ⟨r, 0, none⟩ 1 1 (pc p bs).toList
      (by simpa using HPS.out)
      (fun j u hu => by rw [add_plain, Nat.zero_add, cell_of_row w5 r j _ _ _ R5]; simpa using hu)
      (fun u hu => Array.all_eq_true_iff_forall_mem.1 (pc_one p bs) u (by simpa using hu))
      (by omega) (by unfold maxLen; omega) (by omega) (by have := A5.lo; have := A5.lt; omega) _ rfl
    obtain ⟨A6, k1, f1, T6⟩ := wroteO A5 p bs hp1 HL.out hfew1 ho6 hg6
    have HLI : Hid (wv.ownBlock = some g6 ∨ w.heap.size ≤ g6) := Lib.hid (hlie.imp id fun e => by have z1 := HT4.out.t.size; have z2 := T5.t.size; omega)
    have HA6 := Lib.hid A6
    have HT6 := Lib.hid (HT4.out.trans (T5.trans T6))
    rw [HV.out] at hrun k1
    clear hr A6 T6 T5 A5 ho6 hg6 R5 c1' hlie
    refine wpList_append_run rfl (.tmp 47) (.tmp 49) 149 rfl _ _ (by simp [Act.put, Act.eval]) (by simp [Act.put, Act.eval]) _ w6 hrun ?_
    clear hrun
    go_wp2_with fail
    go_ret
    refine ⟨.slice (some ⟨g6, 0, none⟩) (s1.W.length + 1) cap6, rfl, by rw [← HS1.out]; exact HA6.out, HT6.out, fun k hk => ?_⟩
    have hgk : g6 = k := by simpa [Value.ownBlock] using hk
    rw [← hgk]
    exact HLI.out
  · simp only [List.getElem_toArray, List.getElem_cons_succ, List.getElem_cons_zero]
    refine if_wanted (by rfl) ?_
    refine wp_load_row 158 (.tmp 7) rfl q rfl _ _ _ _ HR4.out Tryz.underlying158 rfl (by rw [HIE.out]; exact congrArg some (HZ1.out.trans HPS.out.symm)) ?_
    refine hK _ _ ?_
    clear hK K
    try simp only [Act.put, List.setIfInBounds_toArray, List.set_cons_zero, List.set_cons_succ]
    refine wpAny_ready (rs := [5, 7]) (by kernel_rfl) (by simp) ?_
    refine AllReady.cons rfl (fun K hK => ?_) (AllReady.cons rfl (fun K hK => ?_) AllReady.nil)
    · go_simp
      refine hK _ _ ?_
      clear hK K
      try simp only [Act.put, List.setIfInBounds_toArray, List.set_cons_zero, List.set_cons_succ]
      refine wpAny_ready (rs := [7]) (by kernel_rfl) (by simp) ?_
      refine AllReady.cons rfl (fun K hK => ?_) AllReady.nil
      simp only [List.getElem_toArray, List.getElem_cons_succ, List.getElem_cons_zero]
      refine if_wanted (by rfl) ?_
      refine wp_buildSlice 149 158 1 _ rfl (pc p bs) ie (.agg zc) Tryz.underlying149 HIE.out HZ0.out (by rw [HZ1.out]; decide) (by rw [HZ1.out]; decide) (HF.out _ _ (by simp) (by simp [Act.put, Act.eval])) ?_
      refine hK _ _ ?_
      clear hK K
      try simp only [Act.put, List.setIfInBounds_toArray, List.set_cons_zero, List.set_cons_succ]
      refine wpAny_tail 8 (by rfl) (by kernel_rfl) ?_
      simp only [List.drop_succ_cons, List.drop_zero]
      have A5 := HA4.out.below HB5.out
      have T5 : TurnO base a wv w4 (w4.alloc (.cells (pc p bs) 158)) := TurnO.of_below HB5.out
      have R5 := heap_alloc_new w4 (.cells (pc p bs) 158)
      obtain ⟨r, hr⟩ : ∃ r, r = w4.heap.size := ⟨_, rfl⟩
      rw [← hr] at R5 ⊢
      generalize w4.alloc (.cells (pc p bs) 158) = w5 at *
      obtain ⟨g6, cap6, w6, hrun, ho6, hg6, hlie, _⟩ := run_append_lies (P := Tryz.prog) (w := w5) 149 149 base 158 ie (.agg zc) 129 136 Tryz.underlying149 HIE.out HZ0.out HZ1.out HZ2.out zc_size (by decide) wv s1.W.length (wcells s1.W) A5.waits ⟨r, 0, none⟩ 1 1 (pc p bs).toList
        (by simpa using HPS.out)
        (fun j u hu => by rw [add_plain, Nat.zero_add, cell_of_row w5 r j _ _ _ R5]; simpa using hu)
        (fun u hu => Array.all_eq_true_iff_forall_mem.1 (pc_one p bs) u (by simpa using hu))
        (by omega) (by unfold maxLen; omega) (by omega) (by have := A5.lo; have := A5.lt; omega) _ rfl
      obtain ⟨A6, k1, f1, T6⟩ := wroteO A5 p bs hp1 HL.out hfew1 ho6 hg6
      have HLI : Hid (wv.ownBlock = some g6 ∨ w.heap.size ≤ g6) := Lib.hid (hlie.imp id fun e => by have z1 := HT4.out.t.size; have z2 := T5.t.size; omega)
      have HA6 := Lib.hid A6
      have HT6 := Lib.hid (HT4.out.trans (T5.trans T6))
      rw [HV.out] at hrun k1
      clear hr A6 T6 T5 A5 ho6 hg6 R5 c1' hlie
      refine wpList_append_run rfl (.tmp 47) (.tmp 49) 149 rfl _ _ (by simp [Act.put, Act.eval]) (by simp [Act.put, Act.eval]) _ w6 hrun ?_
      clear hrun
      go_wp2_with fail
      go_ret
      refine ⟨.slice (some ⟨g6, 0, none⟩) (s1.W.length + 1) cap6, rfl, by rw [← HS1.out]; exact HA6.out, HT6.out, fun k hk => ?_⟩
      have hgk : g6 = k := by simpa [Value.ownBlock] using hk
      rw [← hgk]
      exact HLI.out
    · simp only [List.getElem_toArray, List.getElem_cons_succ, List.getElem_cons_zero]
      refine if_wanted (by rfl) ?_
      refine wp_buildSlice 149 158 1 _ rfl (pc p bs) ie (.agg zc) Tryz.underlying149 HIE.out HZ0.out (by rw [HZ1.out]; decide) (by rw [HZ1.out]; decide) (HF.out _ _ (by simp) (by simp [Act.put, Act.eval])) ?_
      refine hK _ _ ?_
      clear hK K
      try simp only [Act.put, List.setIfInBounds_toArray, List.set_cons_zero, List.set_cons_succ]
      refine wpAny_ready (rs := [5]) (by kernel_rfl) (by simp) ?_
      refine AllReady.cons rfl (fun K hK => ?_) AllReady.nil
      go_simp
      refine hK _ _ ?_
      clear hK K
      try simp only [Act.put, List.setIfInBounds_toArray, List.set_cons_zero, List.set_cons_succ]
      refine wpAny_tail 8 (by rfl) (by kernel_rfl) ?_
      simp only [List.drop_succ_cons, List.drop_zero]
      have A5 := HA4.out.below HB5.out
      have T5 : TurnO base a wv w4 (w4.alloc (.cells (pc p bs) 158)) := TurnO.of_below HB5.out
      have R5 := heap_alloc_new w4 (.cells (pc p bs) 158)
      obtain ⟨r, hr⟩ : ∃ r, r = w4.heap.size := ⟨_, rfl⟩
      rw [← hr] at R5 ⊢
      generalize w4.alloc (.cells (pc p bs) 158) = w5 at *
      obtain ⟨g6, cap6, w6, hrun, ho6, hg6, hlie, _⟩ := run_append_lies (P := Tryz.prog) (w := w5) 149 149 base 158 ie (.agg zc) 129 136 Tryz.underlying149 HIE.out HZ0.out HZ1.out HZ2.out zc_size (by decide) wv s1.W.length (wcells s1.W) A5.waits ⟨r, 0, none⟩ 1 1 (pc p bs).toList
        (by simpa using HPS.out)
        (fun j u hu => by rw [add_plain, Nat.zero_add, cell_of_row w5 r j _ _ _ R5]; simpa using hu)
        (fun u hu => Array.all_eq_true_iff_forall_mem.1 (pc_one p bs) u (by simpa using hu))
        (by omega) (by unfold maxLen; omega) (by omega) (by have := A5.lo; have := A5.lt; omega) _ rfl
      obtain ⟨A6, k1, f1, T6⟩ := wroteO A5 p bs hp1 HL.out hfew1 ho6 hg6
      have HLI : Hid (wv.ownBlock = some g6 ∨ w.heap.size ≤ g6) := Lib.hid (hlie.imp id fun e => by have z1 := HT4.out.t.size; have z2 := T5.t.size; omega)
      have HA6 := Lib.hid A6
      have HT6 := Lib.hid (HT4.out.trans (T5.trans T6))
      rw [HV.out] at hrun k1
      clear hr A6 T6 T5 A5 ho6 hg6 R5 c1' hlie
      refine wpList_append_run rfl (.tmp 47) (.tmp 49) 149 rfl _ _ (by simp [Act.put, Act.eval]) (by simp [Act.put, Act.eval]) _ w6 hrun ?_
      clear hrun
      go_wp2_with fail
      go_ret
      refine ⟨.slice (some ⟨g6, 0, none⟩) (s1.W.length + 1) cap6, rfl, by rw [← HS1.out]; exact HA6.out, HT6.out, fun k hk => ?_⟩
      have hgk : g6 = k := by simpa [Value.ownBlock] using hk
      rw [← hgk]
      exact HLI.out
theorem spend_still (a : Nat) (w : World) (c3 : w.cell? ⟨a, 3, none⟩ = some (.bool false)) :
    Calls Tryz.prog 107 #[.pointer (some ⟨a, 2, none⟩)] w fun e w' => e = .returned (.bool true) ∧ w = w' := by
  go_enter Tryz.func107, Tryz.ntmps107
  go_wp2
  go_ret
  exact ⟨rfl, rfl⟩
def FlushO (w : World) (base a bb bc : Nat) (s' : St) (e : Ending) (w' : World) : Prop := e = .returned (.int .i64 0) ∧ At w' base a bb bc (.slice none 0 0) s' ∧ Turned dT base w w' ∧ Only w w' a bb
set_option maxRecDepth 100000 in
set_option maxHeartbeats 800000 in
theorem flush_calm {w : World} {base a bb bc : Nat} {wv : Value} {s1 : St} (h : At w base a bb bc wv s1) (hg : s1.gone = false) (ha : s1.armed = false) :
    Calls Tryz.prog 162 #[.pointer (some ⟨a, 0, none⟩)] w (FlushO w base a bb bc s1.flushed) := by
  have c2 := h.c2
  rw [hg] at c2
  have c5 := h.c5
  have c3 := h.c3
  have c4 := h.c4
  rw [ha] at c3
  have H := Lib.hid h
  have HG := Lib.hid hg
  have HAR := Lib.hid ha
  clear h hg ha
  go_enter Tryz.func162, Tryz.ntmps162
  go_wp2_with fail
  refine (made_self a _ c5).mono ?_
  rintro e w' ⟨rfl, rfl⟩
  go_wp2_with fail
  refine (spend_still a _ c3).mono ?_
  rintro e w' ⟨rfl, rfl⟩
  have c1 := H.out.c1
  obtain ⟨A, cap, hv, hwc, hm, hA⟩ := H.out.wform
  rw [hv] at c1
  have HF := Lib.hid (show s1.flushed = { laid s1 (fun _ => 128) s1.W.length with W := [] } from by unfold St.flushed; rw [calm_spent HG.out HAR.out])
  have hfew := H.out.ok.few
  unfold maxLen at hm
  have HA1 := H
  have HV := Lib.hid hv
  have HAA := Lib.hid hA
  clear hv hA c2 c5 c3 c4
  go_wp2_with fail
  go_loopw [27] (fun i wr => ∃ k : Nat, k ≤ s1.W.length ∧ i = .int .i64 (k : Int) ∧ Hid (At wr base a bb bc wv (laid s1 (fun _ => 128) k)) ∧ Hid (Turned dT base w wr ∧ Only w wr a bb)) (fun i _ => s1.W.length - (intOf i).toNat)
  case atStart => exact ⟨0, Nat.zero_le _, rfl, HA1, Lib.hid ⟨Turned.refl _ _ _, Only.refl _ _ _⟩⟩
  case round =>
    obtain ⟨k, hk, rfl, HR, HT⟩ := hrel
    obtain ⟨hfn, hfW, _⟩ := laid_frame s1 (fun _ => 128) k
    have HFN := Lib.hid hfn
    have c1 := HR.out.c1
    rw [HV.out] at c1
    clear c1 hfn hfW
    have c1 := HR.out.c1
    rw [HV.out] at c1
    by_cases hlt : k < s1.W.length
    · obtain ⟨g, hg, hg2⟩ := HAA.out (by omega)
      have hki : (k : Int) < (s1.W.length : Int) := by omega
      obtain ⟨W1, W2⟩ := wait_of HR.out.drew (by rw [HV.out, hg]) hlt
      have hw1 := HA1.out.ok.wait s1.W[k] (List.getElem_mem hlt)
      have hl128 := Lib.hid hw1.2
      have HS := Lib.hid (laid_succ s1 (fun _ => 128) k hlt)
      have hp : s1.W[k].1 < (laid s1 (fun _ => 128) k).n := by rw [HFN.out]; exact hw1.1
      subst hg
      have HW1 := Lib.hid W1
      have HW2 := Lib.hid W2
      clear W1 W2 hw1 hg2
      go_wp2_with fail
      go_still_tail 10, (by kernel_rfl)
      change wpList _ _ _ _ _ wr.drew
      go_wp2_with fail
      refine (lay_at2 HR.out.drew g (k * 129) s1.W[k].1 128 s1.W[k].2 hl128.out (by omega) hp HW1.out HW2.out).mono ?_
      rintro e w3 ⟨rfl, A3, T3, O3⟩
      rw [← HS.out] at A3
      have HA3 := Lib.hid A3
      have HT3 := Lib.hid (show Turned dT base w w3 ∧ Only w w3 a bb from ⟨HT.out.1.drew.trans T3, HT.out.2.drew.trans O3⟩)
      clear A3 T3 O3 c1
      go_wp2_with fail
      go_roundw
      case rel => exact ⟨k + 1, by omega, by go_num, HA3, HT3⟩
      case measure => simp [intOf]; omega
    · obtain rfl : k = s1.W.length := by omega
      have f1 := HR.out.f 1
      go_wp2_with fail
      go_ret
      refine ⟨rfl, ?_, ?_, ?_⟩
      · rw [HF.out]
        exact HR.out.cleared
      · exact HT.out.1.setCell HR.out.lo HR.out.head rfl _
      · exact HT.out.2.set 1 _
end Go.Proofs.YtogchamogbendaaGreat.Dsk
/- Words for base: what may have turned; a disk with all its power; a base's plain state, and a base in memory. No function of the program is walked. -/
namespace Go.Proofs.YtogchamogbendaaGreat.Bs
set_option maxRecDepth 100000
open Go.RowKit Go.Proofs.YtogchamogbendaaGreat.Oct Go.Proofs.YtogchamogbendaaGreat.Mv Go.Proofs.YtogchamogbendaaGreat.Tl Go.Proofs.YtogchamogbendaaGreat.Pk Go.Proofs.YtogchamogbendaaGreat.Pl Go.Maps
open Go.Proofs.YtogchamogbendaaGreat.Dsk (dT)
set_option linter.unusedVariables false

theorem lt_of_heap {w : World} {j : Nat} {o : Obj} (h : w.heap[j]? = some o) : j < w.heap.size := by
  rcases Nat.lt_or_ge j w.heap.size with h1 | h1
  · exact h1
  · rw [Array.getElem?_eq_none h1] at h; cases h
/-! ### What has turned -/
/-- Of what was there the blocks of L may have turned, and such as have a type of T, but those that are protected; there may be new ones. -/
structure Off (T : TypeId → Bool) (Pr : Nat → Prop) (L : List Nat) (w w' : World) : Prop where
  os : w'.os = w.os
  tape : w'.tape = w.tape
  output : w'.output = w.output
  size : w.heap.size ≤ w'.heap.size
  block : ∀ k, k < w.heap.size → k ∉ L → (Pr k ∨ ∀ cs t fr, w.heap[k]? = some (.cells cs t fr) → T t = false) → w'.heap[k]? = w.heap[k]?
section
variable {T : TypeId → Bool} {Pr : Nat → Prop} {L : List Nat} {w w' w'' : World}
theorem Off.refl (T : TypeId → Bool) (Pr : Nat → Prop) (L : List Nat) (w : World) : Off T Pr L w w := ⟨rfl, rfl, rfl, Nat.le_refl _, fun _ _ _ _ => rfl⟩
theorem Off.trans (h : Off T Pr L w w') (k : Off T Pr L w' w'') : Off T Pr L w w'' :=
  ⟨k.os.trans h.os, k.tape.trans h.tape, k.output.trans h.output, Nat.le_trans h.size k.size, fun j hj h1 h2 => by
    have e := h.block j hj h1 h2
    exact (k.block j (Nat.lt_of_lt_of_le hj h.size) h1 (by rw [e]; exact h2)).trans e⟩
/-- What the second part has turned of blocks that the first one began with is on the list. -/
theorem Off.join {M : List Nat} (h : Off T Pr L w w') (k : Off T Pr M w' w'') (hM : ∀ x ∈ M, x ∈ L ∨ w.heap.size ≤ x) : Off T Pr L w w'' :=
  ⟨k.os.trans h.os, k.tape.trans h.tape, k.output.trans h.output, Nat.le_trans h.size k.size, fun j hj h1 h2 => by
    have e := h.block j hj h1 h2
    exact (k.block j (Nat.lt_of_lt_of_le hj h.size) (fun hm => (hM j hm).elim h1 (fun h3 => absurd hj (Nat.not_lt.2 h3))) (by rw [e]; exact h2)).trans e⟩
theorem Off.of_butL (T : TypeId → Bool) (Pr : Nat → Prop) (h : ButL w w' L) : Off T Pr L w w' := ⟨h.os, h.tape, h.output, h.size, fun k hk h1 _ => h.block k hk h1⟩
theorem Off.of_below (T : TypeId → Bool) (Pr : Nat → Prop) (L : List Nat) {B : Nat} (h : Below B w w') (hB : w.heap.size ≤ B) : Off T Pr L w w' := Off.of_butL T Pr (ButL.of_below L h hB)
theorem Off.mono {M : List Nat} (h : Off T Pr L w w') (hM : ∀ x ∈ L, x ∈ M ∨ w.heap.size ≤ x) : Off T Pr M w w' :=
  ⟨h.os, h.tape, h.output, h.size, fun k hk h1 h2 => h.block k hk (fun hm => (hM k hm).elim h1 (fun h3 => absurd hk (Nat.not_lt.2 h3))) h2⟩
theorem Off.type {U : TypeId → Bool} (h : Off T Pr L w w') (hU : ∀ t, U t = false → T t = false) : Off U Pr L w w' :=
  ⟨h.os, h.tape, h.output, h.size, fun k hk h1 h2 => h.block k hk h1 (h2.imp id fun h3 cs t fr e => hU t (h3 cs t fr e))⟩
/-- All that is protected, and not on the list, is as it was. -/
theorem Off.below (h : Off T Pr L w w') {B : Nat} (hP : ∀ k, k < B → Pr k) (hL : ∀ x ∈ L, B ≤ x) (hB : B ≤ w.heap.size) : Below B w w' :=
  ⟨h.os, h.tape, h.output, h.size, fun k hk => h.block k (Nat.lt_of_lt_of_le hk hB) (fun hm => absurd (hL k hm) (Nat.not_le.2 hk)) (.inl (hP k hk))⟩
theorem Off.rowV {g : Nat} {U : TypeId} {vs : List Value} (h : Off T Pr L w w') (k : RowV w g U vs) (hg : g ∉ L) (hU : T U = false) : RowV w' g U vs :=
  (h.block g k.lt hg (.inr fun cs t fr e => by rw [show w.heap[g]? = some (.cells vs.toArray U (0, 0)) from k] at e; cases e; exact hU)).trans k
theorem Off.rowEx {g : Nat} {U : TypeId} {vs : List Value} (h : Off T Pr L w w') (k : ∃ sp, RowV w g U (vs ++ sp)) (hg : g ∉ L) (hU : T U = false) : ∃ sp, RowV w' g U (vs ++ sp) :=
  k.imp fun _ k => h.rowV k hg hU
end

/-! ### A disk with all its power -/
structure Calm (s : Dsk.St) : Prop where
  gone : s.gone = false
  armed : s.armed = false
/-- A disk none of whose blocks is protected. -/
def DIs (Pr : Nat → Prop) (w : World) (a : Nat) (s : Dsk.St) : Prop := ∃ bb bc wv, Dsk.At w 0 a bb bc wv s ∧ ¬ Pr a ∧ ¬ Pr bb ∧ ∀ k, wv.ownBlock = some k → ¬ Pr k
section
variable {Pr : Nat → Prop} {w w' : World} {a : Nat} {s : Dsk.St}
theorem DIs.is (h : DIs Pr w a s) : Dsk.Is w 0 a s := by obtain ⟨bb, bc, wv, h, _⟩ := h; exact ⟨bb, bc, wv, h⟩
theorem DIs.ok (h : DIs Pr w a s) : s.Ok := h.is.ok
theorem DIs.lt (h : DIs Pr w a s) : a < w.heap.size := h.is.lt
/-- Nothing of a disk's types has turned. -/
theorem DIs.keep (h : DIs Pr w a s) (k : ∀ (j : Nat) cs t fr, w.heap[j]? = some (.cells cs t fr) → dT t = true → w'.heap[j]? = w.heap[j]?) : DIs Pr w' a s := by
  obtain ⟨bb, bc, wv, h, r⟩ := h
  exact ⟨bb, bc, wv, h.same fun j cs t fr _ _ e ht => k j cs t fr e ht, r⟩
theorem DIs.below (h : DIs Pr w a s) (k : Below w.heap.size w w') : DIs Pr w' a s := h.keep fun j cs t fr e _ => k.block j (lt_of_heap e)
theorem DIs.butL {L : List Nat} (h : DIs Pr w a s) (k : ButL w w' L) (hL : ∀ x ∈ L, ∀ cs t fr, w.heap[x]? = some (.cells cs t fr) → dT t = false) : DIs Pr w' a s :=
  h.keep fun j cs t fr e ht => k.block j (lt_of_heap e) fun hm => by have := hL j hm cs t fr e; rw [ht] at this; cases this
theorem DIs.off {T : TypeId → Bool} {Qr : Nat → Prop} {L : List Nat} (h : DIs Pr w a s) (k : Off T Qr L w w') (hT : ∀ t, dT t = true → T t = false) (hL : ∀ x ∈ L, ∀ cs t fr, w.heap[x]? = some (.cells cs t fr) → dT t = false) : DIs Pr w' a s :=
  h.keep fun j cs t fr e ht => k.block j (lt_of_heap e) (fun hm => by have := hL j hm cs t fr e; rw [ht] at this; cases this) (.inr fun cs' t' fr' e' => by rw [e] at e'; cases e'; exact hT t ht)
theorem DIs.mono {Qr : Nat → Prop} (h : DIs Pr w a s) (hq : ∀ k, Qr k → Pr k) : DIs Qr w a s := by
  obtain ⟨bb, bc, wv, h, h1, h2, h3⟩ := h
  exact ⟨bb, bc, wv, h, fun k => h1 (hq _ k), fun k => h2 (hq _ k), fun j hj k => h3 j hj (hq _ k)⟩
end
/-- Written with all its power; what is handed in may not be the disk's own. -/
theorem dwrite {Pr : Nat → Prop} {w : World} {a : Nat} {s : Dsk.St} (h : DIs Pr w a s) (hc : Calm s) (hP : ∀ k, Pr k → k < w.heap.size) (hfew : s.W.length < 1000000) (p : Nat) (hp : p < s.n) (ba : Option Addr) (bcap : Nat) (bs : List UInt8) (hl : bs.length = 128) (hb : ∀ w', Off dT Pr [] w w' → Oct.Told w' ba bs) :
    Calls Tryz.prog 46 #[.pointer (some ⟨a, 0, none⟩), .int .i64 (p : Int), .slice ba 128 bcap] w fun e w' => e = .returned (.int .i64 0) ∧ DIs Pr w' a (s.wrote p bs) ∧ Off dT Pr [] w w' := by
  obtain ⟨bb, bc, wv, h, h1, h2, h3⟩ := h
  have hO : ∀ w', Dsk.TurnO 0 a wv w w' → Off dT Pr [] w w' := fun w' t => ⟨t.t.os, t.t.tape, t.t.output, t.t.size, fun k hk _ hc => by
    rcases hc with hc | hc
    · exact t.block k hk (fun e => h1 (e ▸ hc)) fun e => h3 k e hc
    · exact t.t.block k hk (.inr hc)⟩
  refine (Dsk.write_calm h hc.gone hc.armed hfew p hp ba bcap bs hl fun w' t => hb w' (hO w' t)).mono fun e w' ⟨wv', he, ha, ht, hw⟩ => ⟨he, ⟨bb, bc, wv', ha, h1, h2, fun k hk => ?_⟩, hO w' ht⟩
  rcases hw k hk with hw | hw
  · exact h3 k hw
  · exact fun hpr => absurd (hP k hpr) (Nat.not_lt.2 hw)
theorem dflush {Pr : Nat → Prop} {w : World} {a : Nat} {s : Dsk.St} (h : DIs Pr w a s) (hc : Calm s) :
    Calls Tryz.prog 162 #[.pointer (some ⟨a, 0, none⟩)] w fun e w' => e = .returned (.int .i64 0) ∧ DIs Pr w' a s.flushed ∧ Off dT Pr [] w w' := by
  obtain ⟨bb, bc, wv, h, h1, h2, h3⟩ := h
  refine (Dsk.flush_calm h hc.gone hc.armed).mono fun e w' ⟨he, ha, ht, ho⟩ => ⟨he, ⟨bb, bc, _, ha, h1, h2, fun k hk => by cases hk⟩, ⟨ht.os, ht.tape, ht.output, ht.size, fun k hk _ hc => ?_⟩⟩
  rcases hc with hc | hc
  · exact ho.block k hk (fun e => h1 (e ▸ hc)) (fun e => h2 (e ▸ hc))
  · exact ht.block k hk (.inr hc)
theorem Calm.wrote {s : Dsk.St} (h : Calm s) (p : Nat) (bs : List UInt8) : Calm (s.wrote p bs) := ⟨h.gone, h.armed⟩
theorem Calm.flushed {s : Dsk.St} (h : Calm s) : Calm s.flushed := by
  have e : s.flushed = { Dsk.laid s (fun _ => 128) s.W.length with W := [] } := by unfold Dsk.St.flushed; rw [Dsk.calm_spent h.gone h.armed]
  obtain ⟨_, _, h1, h2, _⟩ := Dsk.laid_frame s (fun _ => 128) s.W.length
  rw [e]
  exact ⟨h1.trans h.gone, h2.trans h.armed⟩
theorem n_flushed {s : Dsk.St} (h : Calm s) : s.flushed.n = s.n := by
  unfold Dsk.St.flushed
  rw [Dsk.calm_spent h.gone h.armed]
  exact (Dsk.laid_frame s (fun _ => 128) s.W.length).1
theorem w_flushed (s : Dsk.St) : s.flushed.W = [] := rfl
theorem says_still {s : Dsk.St} (h : s.W = []) (p : Nat) : s.says p = s.stand p := by unfold Dsk.St.says; rw [h, Dsk.last?_nil]; rfl
theorem says_wrote (s : Dsk.St) (p : Nat) (bs : List UInt8) (j : Nat) : (s.wrote p bs).says j = if p = j then bs else s.says j := by
  unfold Dsk.St.says Dsk.St.wrote
  rw [Dsk.last?_snoc]
  split <;> rfl
end Go.Proofs.YtogchamogbendaaGreat.Bs
/- A base's plain state; a base in memory; what is told of it without a change: made, stop, Gen, Blocks, Root, Mark, has, behind, Fresh, Count, Room, Waits, Broken. -/
namespace Go.Proofs.YtogchamogbendaaGreat.Bs
set_option maxRecDepth 100000
open Go.RowKit Go.Proofs.YtogchamogbendaaGreat.Oct Go.Proofs.YtogchamogbendaaGreat.Mv Go.Proofs.YtogchamogbendaaGreat.Tl Go.Proofs.YtogchamogbendaaGreat.Pk Go.Proofs.YtogchamogbendaaGreat.Pl Go.Maps
open Go.Proofs.YtogchamogbendaaGreat.Dsk (dT)
open Go.Proofs.YtogchamogbendaaGreat.Su (Sup nth scells length_scells scells_at scell)
set_option linter.unusedVariables false

/-- A base: its pick and tally, where pages stand, its super as it was kept and as it is, what is fresh, its disk. -/
structure BS where
  q : Q
  l1 : List Nat
  l2 : List Nat
  kept : Sup
  now : Sup
  fr : Nat → Option (List UInt8)
  D : Dsk.St
def BS.n (x : BS) : Nat := x.q.s.n
def BS.L (x : BS) : List Nat := x.l1 ++ x.l2
/-- Where a base lies: its struct, its tally's three blocks, its pick, the map of what is fresh, its disk. -/
structure Adr where
  b : Nat
  ta : Nat
  cb : Nat
  mb : Nat
  c : Nat
  p : Nat
  fm : Nat
  d : Nat
/-- What a base may write of its own. -/
def Adr.list (A : Adr) : List Nat := [A.b, A.cb, A.mb, A.p, A.fm]

/-! ### The struct's cells -/
def bcells (A : Adr) (n m s1 d1 s2 d2 : Nat) (kept now : Sup) : List Value :=
  [.pointer (some ⟨A.d, 0, none⟩), .pointer (some ⟨A.ta, 0, none⟩), .pointer (some ⟨A.p, 0, none⟩), .slice (some ⟨s1, 0, none⟩) n d1, .slice (some ⟨s2, 0, none⟩) m d2] ++ (scells kept ++ (scells now ++ [.map (some A.fm), .bool false, .pointer (some ⟨A.b, 0, none⟩)]))
section
variable (A : Adr) (n m s1 d1 s2 d2 : Nat) (kept now : Sup)
theorem length_bcells : (bcells A n m s1 d1 s2 d2 kept now).length = 44 := by simp [bcells, length_scells]
theorem bc0 : (bcells A n m s1 d1 s2 d2 kept now)[0]? = some (.pointer (some ⟨A.d, 0, none⟩)) := rfl
theorem bc1 : (bcells A n m s1 d1 s2 d2 kept now)[1]? = some (.pointer (some ⟨A.ta, 0, none⟩)) := rfl
theorem bc2 : (bcells A n m s1 d1 s2 d2 kept now)[2]? = some (.pointer (some ⟨A.p, 0, none⟩)) := rfl
theorem bc3 : (bcells A n m s1 d1 s2 d2 kept now)[3]? = some (.slice (some ⟨s1, 0, none⟩) n d1) := rfl
theorem bc4 : (bcells A n m s1 d1 s2 d2 kept now)[4]? = some (.slice (some ⟨s2, 0, none⟩) m d2) := rfl
theorem bck (j : Nat) (h : j < 18) : (bcells A n m s1 d1 s2 d2 kept now)[5 + j]? = some (scell j (nth kept j)) := by
  unfold bcells
  rw [List.getElem?_append_right (by simp), List.getElem?_append_left (by rw [length_scells]; simp; omega)]
  simp only [List.length_cons, List.length_nil, Nat.reduceAdd, Nat.add_sub_cancel_left]
  exact scells_at kept j h
theorem bcn (j : Nat) (h : j < 18) : (bcells A n m s1 d1 s2 d2 kept now)[23 + j]? = some (scell j (nth now j)) := by
  unfold bcells
  rw [List.getElem?_append_right (by simp; omega), List.getElem?_append_right (by rw [length_scells]; simp; omega), List.getElem?_append_left (by rw [length_scells, length_scells]; simp; omega)]
  rw [length_scells, show 23 + j - [Value.pointer (some ⟨A.d, 0, none⟩), .pointer (some ⟨A.ta, 0, none⟩), .pointer (some ⟨A.p, 0, none⟩), .slice (some ⟨s1, 0, none⟩) n d1, .slice (some ⟨s2, 0, none⟩) m d2].length - 18 = j by simp; omega]
  exact scells_at now j h
theorem bct (j : Nat) : (bcells A n m s1 d1 s2 d2 kept now)[41 + j]? = [Value.map (some A.fm), .bool false, .pointer (some ⟨A.b, 0, none⟩)][j]? := by
  unfold bcells
  rw [List.getElem?_append_right (by simp; omega), List.getElem?_append_right (by rw [length_scells]; simp; omega), List.getElem?_append_right (by rw [length_scells, length_scells]; simp; omega)]
  rw [length_scells, length_scells, show 41 + j - [Value.pointer (some ⟨A.d, 0, none⟩), .pointer (some ⟨A.ta, 0, none⟩), .pointer (some ⟨A.p, 0, none⟩), .slice (some ⟨s1, 0, none⟩) n d1, .slice (some ⟨s2, 0, none⟩) m d2].length - 18 - 18 = j by simp; omega]
theorem bc41 : (bcells A n m s1 d1 s2 d2 kept now)[41]? = some (.map (some A.fm)) := bct A n m s1 d1 s2 d2 kept now 0
theorem bc42 : (bcells A n m s1 d1 s2 d2 kept now)[42]? = some (.bool false) := bct A n m s1 d1 s2 d2 kept now 1
theorem bc43 : (bcells A n m s1 d1 s2 d2 kept now)[43]? = some (.pointer (some ⟨A.b, 0, none⟩)) := bct A n m s1 d1 s2 d2 kept now 2
end

/-! ### What is fresh -/
/-- How an element of the map of fresh blocks reads: where its bytes lie. -/
def sliceR : Value → Option (DataW Unit × List MemPlace)
  | .slice (some ⟨g, 0, none⟩) 128 c => some (.agg [.lit (.int .i64 (g : Int)), .lit (.int .i64 (c : Int))], [])
  | .slice none 0 0 => some (.agg [], [])
  | _ => none
def datS (g c : Nat) : DataW Unit := .agg [.lit (.int .i64 (g : Int)), .lit (.int .i64 (c : Int))]
theorem sliceR_mk (g c : Nat) : sliceR (.slice (some ⟨g, 0, none⟩) 128 c) = some (datS g c, []) := rfl
theorem datS_inj {g c g' c' : Nat} (h : datS g c = datS g' c') : g = g' ∧ c = c' := by
  simp only [datS, DataW.agg.injEq, List.cons.injEq, DataW.lit.injEq, Lit.int.injEq, true_and, and_true] at h
  omega
theorem sliceR_inv {v : Value} {z : DataW Unit × List MemPlace} (h : sliceR v = some z) : (∃ g c, v = .slice (some ⟨g, 0, none⟩) 128 c ∧ z = (datS g c, [])) ∨ (v = .slice none 0 0 ∧ z = (.agg [], [])) := by
  unfold sliceR at h
  split at h
  · rename_i g c
    exact .inl ⟨g, c, rfl, (Option.some.inj h).symm⟩
  · exact .inr ⟨rfl, (Option.some.inj h).symm⟩
  · cases h
theorem sliceR_one {v v' : Value} {d : DataW Unit} {p p' : List MemPlace} (h : sliceR v = some (d, p)) (k : sliceR v' = some (d, p')) : v = v' := by
  rcases sliceR_inv h with ⟨g, c, rfl, e⟩ | ⟨rfl, e⟩ <;> rcases sliceR_inv k with ⟨g', c', rfl, e'⟩ | ⟨rfl, e'⟩
  · have e1 : d = datS g c := congrArg Prod.fst e
    have e2 : d = datS g' c' := congrArg Prod.fst e'
    obtain ⟨rfl, rfl⟩ := datS_inj (e1.symm.trans e2)
    rfl
  · have e1 : d = datS g c := congrArg Prod.fst e
    have e2 : d = .agg [] := congrArg Prod.fst e'
    rw [e1] at e2
    simp [datS] at e2
  · have e1 : d = .agg [] := congrArg Prod.fst e
    have e2 : d = datS g' c' := congrArg Prod.fst e'
    rw [e1] at e2
    simp [datS] at e2
  · rfl
theorem sliceR_agg {v : Value} {g c : Nat} {p : List MemPlace} (h : sliceR v = some (datS g c, p)) : v = .slice (some ⟨g, 0, none⟩) 128 c :=
  (sliceR_one (p' := []) h (sliceR_mk g c))
/-- A block of bytes that begins so. -/
def Byt (w : World) (g : Nat) (bs : List UInt8) : Prop := Has w g 0 bs ∧ ∃ cs fr, w.heap[g]? = some (.cells cs 5 fr)
structure FSays (w : World) (D : DataW Unit) (fr : Nat → Option (List UInt8)) : Prop where
  has : ∀ k, Maps.has D k = true ↔ ∃ i, k = key i ∧ (fr i).isSome = true
  at' : ∀ i bs, fr i = some bs → i ≤ 4096 ∧ bs.length = 128 ∧ ∃ g c, (∀ z, D.atKey (key i) z = datS g c) ∧ Byt w g bs ∧ 128 ≤ c ∧ c ≤ maxLen
def FMap (w : World) (fm : Nat) (fr : Nat → Option (List UInt8)) : Prop := ∃ nn D, w.ownsMap Tryz.prog 3 sliceR fm nn D ∧ FSays w D fr
theorem Byt.told {w : World} {g : Nat} {bs : List UInt8} (h : Byt w g bs) : Oct.Told w (some ⟨g, 0, none⟩) bs := by
  exact h.1.told
theorem Byt.block {w w' : World} {g : Nat} {bs : List UInt8} (h : Byt w g bs) (k : ∀ cs fr, w.heap[g]? = some (.cells cs 5 fr) → w'.heap[g]? = w.heap[g]?) : Byt w' g bs := by
  obtain ⟨h1, cs, fr, h2⟩ := h
  have e := k cs fr h2
  exact ⟨fun i hi => by have := h1 i hi; unfold World.cell? at this ⊢; rw [e]; exact this, cs, fr, e.trans h2⟩
theorem Byt.lt {w : World} {g : Nat} {bs : List UInt8} (h : Byt w g bs) : g < w.heap.size := by
  obtain ⟨_, cs, fr, h2⟩ := h
  exact lt_of_heap h2
theorem Byt.below {w w' : World} {g B : Nat} {bs : List UInt8} (h : Byt w g bs) (hg : g < B) (k : Below B w w') : Byt w' g bs := h.block fun _ _ _ => k.block g hg
theorem Byt.off {w w' : World} {g : Nat} {bs : List UInt8} {T : TypeId → Bool} {Pr : Nat → Prop} {L : List Nat} (h : Byt w g bs) (k : Off T Pr L w w') (hg : g ∉ L) (hT : T 5 = false) : Byt w' g bs :=
  h.block fun cs fr e => k.block g (lt_of_heap e) hg (.inr fun cs' t' fr' e' => by rw [e] at e'; cases e'; exact hT)
theorem FMap.lt {w : World} {fm : Nat} {fr : Nat → Option (List UInt8)} (h : FMap w fm fr) : fm < w.heap.size := by
  obtain ⟨nn, D, ⟨es, cl, h, _⟩, _⟩ := h
  exact lt_of_heap h
theorem FMap.keep {w w' : World} {fm : Nat} {fr : Nat → Option (List UInt8)} (h : FMap w fm fr) (k : w'.heap[fm]? = w.heap[fm]?) (kb : ∀ g bs, Byt w g bs → Byt w' g bs) : FMap w' fm fr := by
  obtain ⟨nn, D, ⟨es, cl, h1, h2⟩, h3⟩ := h
  refine ⟨nn, D, ⟨es, cl, k.trans h1, h2⟩, h3.has, fun i bs hi => ?_⟩
  obtain ⟨h4, h5, g, c, h6, h7, h8⟩ := h3.at' i bs hi
  exact ⟨h4, h5, g, c, h6, kb g bs h7, h8⟩

/-! ### A base in memory -/
structure BAt (Pr : Nat → Prop) (w : World) (A : Adr) (x : BS) : Prop where
  row : ∃ s1 d1 s2 d2, RowV w A.b 72 (bcells A x.l1.length x.l2.length s1 d1 s2 d2 x.kept x.now) ∧ (∃ sp, RowV w s1 3 (ints x.l1 ++ sp)) ∧ ∃ sp, RowV w s2 3 (ints x.l2 ++ sp)
  pat : PAt w A.p A.ta A.cb A.mb A.c x.q
  fm : FMap w A.fm x.fr
  dk : DIs Pr w A.d x.D
  ne : A.mb ≠ A.fm
  np : ∀ k ∈ A.list, ¬ Pr k
  lt : ∀ k, Pr k → k < w.heap.size
section
variable {Pr : Nat → Prop} {w w' : World} {A : Adr} {x : BS}
/-- Nothing of it has turned. -/
theorem BAt.keep (h : BAt Pr w A x) (hs : w.heap.size ≤ w'.heap.size) (kl : ∀ k ∈ A.list, w'.heap[k]? = w.heap[k]?) (kt : ∀ (j : Nat) cs t fr, w.heap[j]? = some (.cells cs t fr) → (t = 3 ∨ t = 5 ∨ t = 246 ∨ dT t = true) → w'.heap[j]? = w.heap[j]?) : BAt Pr w' A x where
  row := by
    obtain ⟨s1, d1, s2, d2, h1, h2, h3⟩ := h.row
    exact ⟨s1, d1, s2, d2, h1.block (kl _ (by simp [Adr.list])), h2.imp fun _ k => k.block (kt _ _ _ _ k (.inl rfl)), h3.imp fun _ k => k.block (kt _ _ _ _ k (.inl rfl))⟩
  pat := h.pat.blocks (kl _ (by simp [Adr.list])) (kt _ _ _ _ h.pat.tally.row (.inr (.inr (.inl rfl)))) (kl _ (by simp [Adr.list])) (kl _ (by simp [Adr.list]))
  fm := h.fm.keep (kl _ (by simp [Adr.list])) fun g bs hb => hb.block fun cs fr e => kt _ _ _ _ e (.inr (.inl rfl))
  dk := h.dk.keep fun j cs t fr e ht => kt j cs t fr e (.inr (.inr (.inr ht)))
  ne := h.ne
  np := h.np
  lt := fun k hk => Nat.lt_of_lt_of_le (h.lt k hk) hs
theorem BAt.list_lt (h : BAt Pr w A x) : ∀ k ∈ A.list, k < w.heap.size := by
  intro k hk
  obtain ⟨s1, d1, s2, d2, h1, _⟩ := h.row
  simp only [Adr.list, List.mem_cons, List.not_mem_nil, or_false] at hk
  rcases hk with rfl | rfl | rfl | rfl | rfl
  · exact h1.lt
  · exact h.pat.tally.cb_lt
  · exact h.pat.tally.mp.lt
  · exact h.pat.row.lt
  · exact h.fm.lt
theorem BAt.below (h : BAt Pr w A x) (k : Below w.heap.size w w') : BAt Pr w' A x :=
  h.keep k.size (fun j hj => k.block j (h.list_lt j hj)) fun j cs t fr e _ => k.block j (lt_of_heap e)
theorem BAt.size (h : BAt Pr w A x) : A.b < w.heap.size := h.list_lt _ (by simp [Adr.list])
/-- What is not on its list, and no disk's block, is not turned by it. -/
theorem BAt.still (h : BAt Pr w A x) (k : Still w w') : BAt Pr w' A x := h.below (k.below _)
theorem BAt.cells (h : BAt Pr w A x) : ∃ s1 d1 s2 d2, RowV w A.b 72 (bcells A x.l1.length x.l2.length s1 d1 s2 d2 x.kept x.now) := by
  obtain ⟨s1, d1, s2, d2, h1, _⟩ := h.row
  exact ⟨s1, d1, s2, d2, h1⟩
theorem BAt.c0 (h : BAt Pr w A x) : w.cell? ⟨A.b, 0, none⟩ = some (.pointer (some ⟨A.d, 0, none⟩)) := by obtain ⟨_, _, _, _, h⟩ := h.cells; exact h.cellAt (bc0 ..)
theorem BAt.c1 (h : BAt Pr w A x) : w.cell? ⟨A.b, 1, none⟩ = some (.pointer (some ⟨A.ta, 0, none⟩)) := by obtain ⟨_, _, _, _, h⟩ := h.cells; exact h.cellAt (bc1 ..)
theorem BAt.c2 (h : BAt Pr w A x) : w.cell? ⟨A.b, 2, none⟩ = some (.pointer (some ⟨A.p, 0, none⟩)) := by obtain ⟨_, _, _, _, h⟩ := h.cells; exact h.cellAt (bc2 ..)
theorem BAt.c41 (h : BAt Pr w A x) : w.cell? ⟨A.b, 41, none⟩ = some (.map (some A.fm)) := by obtain ⟨_, _, _, _, h⟩ := h.cells; exact h.cellAt (bc41 ..)
theorem BAt.c42 (h : BAt Pr w A x) : w.cell? ⟨A.b, 42, none⟩ = some (.bool false) := by obtain ⟨_, _, _, _, h⟩ := h.cells; exact h.cellAt (bc42 ..)
theorem BAt.c43 (h : BAt Pr w A x) : w.cell? ⟨A.b, 43, none⟩ = some (.pointer (some ⟨A.b, 0, none⟩)) := by obtain ⟨_, _, _, _, h⟩ := h.cells; exact h.cellAt (bc43 ..)
theorem BAt.gen (h : BAt Pr w A x) : w.cell? ⟨A.b, 23, none⟩ = some (.int .u64 (nth x.now 0 : Int)) := by obtain ⟨_, _, _, _, h⟩ := h.cells; exact h.cellAt (bcn _ _ _ _ _ _ _ _ _ 0 (by omega))
theorem BAt.blk (h : BAt Pr w A x) : w.cell? ⟨A.b, 24, none⟩ = some (.int .u32 (nth x.now 1 : Int)) := by obtain ⟨_, _, _, _, h⟩ := h.cells; exact h.cellAt (bcn _ _ _ _ _ _ _ _ _ 1 (by omega))
theorem BAt.root (h : BAt Pr w A x) (i : Nat) (hi : i < 8) : w.cell? ⟨A.b, 25 + i, none⟩ = some (.int .u32 (nth x.now (2 + i) : Int)) := by
  obtain ⟨s1, d1, s2, d2, h⟩ := h.cells
  have := bcn A x.l1.length x.l2.length s1 d1 s2 d2 x.kept x.now (2 + i) (by omega)
  rw [Su.scell_small _ _ (by omega) (by omega), show 23 + (2 + i) = 25 + i by omega] at this
  exact h.cellAt this
theorem BAt.mark (h : BAt Pr w A x) (i : Nat) (hi : i < 8) : w.cell? ⟨A.b, 33 + i, none⟩ = some (.int .u64 (nth x.now (10 + i) : Int)) := by
  obtain ⟨s1, d1, s2, d2, h⟩ := h.cells
  have := bcn A x.l1.length x.l2.length s1 d1 s2 d2 x.kept x.now (10 + i) (by omega)
  rw [Su.scell_wide _ _ (by omega), show 23 + (10 + i) = 33 + i by omega] at this
  exact h.cellAt this
theorem BAt.free (h : BAt Pr w A x) (i : Nat) : w.frozen? ⟨A.b, i, none⟩ = false := by obtain ⟨_, _, _, _, h⟩ := h.cells; exact h.free i
end
end Go.Proofs.YtogchamogbendaaGreat.Bs
/- What is told of a base without a change: made, stop, Gen, Blocks, Root, Mark, has, behind, Fresh, Count, Room, Waits, Broken; and what is told of none. (Written by bin/gen_bsc.py.) -/
namespace Go.Proofs.YtogchamogbendaaGreat.Bs
set_option maxRecDepth 100000
open Go.RowKit Go.Proofs.YtogchamogbendaaGreat.Oct Go.Proofs.YtogchamogbendaaGreat.Mv Go.Proofs.YtogchamogbendaaGreat.Tl Go.Proofs.YtogchamogbendaaGreat.Pk Go.Proofs.YtogchamogbendaaGreat.Pl Go.Maps
open Go.Proofs.YtogchamogbendaaGreat.Dsk (dT)
open Go.Proofs.YtogchamogbendaaGreat.Su (Sup nth scells)
set_option linter.unusedVariables false
set_option linter.unusedSimpArgs false

/-! ### made -/
theorem base_info : (Tryz.prog.info? 72).isSome = true := by kernel_rfl
theorem beql_self (a : Nat) (w : World) : (binOp .eql 24 (.pointer (some ⟨a, 0, none⟩)) (.pointer (some ⟨a, 0, none⟩))).run Tryz.prog w = .ok (.bool true) w := by
  obtain ⟨j, hj⟩ := Option.isSome_iff_exists.1 base_info
  exact run_eql_ptr_same (P := Tryz.prog) w ⟨a, 0, none⟩ Tryz.underlying24 hj
theorem beql_nil (a : Addr) (w : World) : (binOp .eql 24 (.pointer none) (.pointer (some a))).run Tryz.prog w = .ok (.bool false) w := by
  have h : ∀ d : Nat, (Op.equalIn (d + 1) 24 (.pointer none) (.pointer (some a))).run Tryz.prog w = .ok false w := fun d => by
    simp [Op.equalIn, run_underlying Tryz.underlying24]
  simp only [binOp]
  simp [Op.equal, Op.maxDepth, h 9999]
theorem bmade_self (a : Nat) (w : World) (h : w.cell? ⟨a, 43, none⟩ = some (.pointer (some ⟨a, 0, none⟩))) :
    Calls Tryz.prog 93 #[.pointer (some ⟨a, 0, none⟩)] w fun e w' => e = .returned (.bool true) ∧ w = w' := by
  have h1 := beql_self a w
  go_enter Tryz.func93, Tryz.ntmps93
  go_wp2
  go_ret
  exact ⟨rfl, rfl⟩
/-- What is no base: nil, or one that was made by nobody. -/
def BNay (w : World) (v : Value) : Prop := v = .pointer none ∨ ∃ a, v = .pointer (some ⟨a, 0, none⟩) ∧ w.cell? ⟨a, 43, none⟩ = some (.pointer none)
theorem BNay.below {w w' : World} {v : Value} (h : BNay w v) (k : Below w.heap.size w w') : BNay w' v := by
  rcases h with h | ⟨a, h, hc⟩
  · exact .inl h
  · exact .inr ⟨a, h, (k.cell (p := ⟨a, 43, none⟩) (World.block_lt_of_cell? w _ hc)).trans hc⟩
theorem bmade_nay (v : Value) (w : World) (h : BNay w v) :
    Calls Tryz.prog 93 #[v] w fun e w' => e = .returned (.bool false) ∧ w = w' := by
  rcases h with rfl | ⟨a, rfl, hc⟩
  · go_enter Tryz.func93, Tryz.ntmps93
    go_wp2
    go_ret
    exact ⟨rfl, rfl⟩
  · have h1 := beql_nil ⟨a, 0, none⟩ w
    go_enter Tryz.func93, Tryz.ntmps93
    go_wp2
    go_ret
    exact ⟨rfl, rfl⟩
theorem slot_yes (i : Int) (h0 : 0 ≤ i) (h1 : i < 8) (w : World) :
    Calls Tryz.prog 105 #[.int .i64 i] w fun e w' => e = .returned (.bool true) ∧ w = w' := by
  go_enter Tryz.func105, Tryz.ntmps105
  go_wp2
  go_ret
  exact ⟨rfl, rfl⟩
theorem stop_at {Pr : Nat → Prop} {w : World} {A : Adr} {x : BS} (h : BAt Pr w A x) :
    Calls Tryz.prog 83 #[.pointer (some ⟨A.b, 0, none⟩)] w fun e w' => e = .returned (.int .i64 0) ∧ w = w' := by
  have c42 := h.c42
  have c43 := h.c43
  clear h
  go_enter Tryz.func83, Tryz.ntmps83
  go_wp2_with fail
  refine (bmade_self A.b _ c43).mono ?_
  rintro e w' ⟨rfl, rfl⟩
  go_wp2_with fail
  go_ret
  exact ⟨rfl, rfl⟩
theorem blocks_nay (v : Value) (w : World) (h : BNay w v) :
    Calls Tryz.prog 27 #[v] w fun e w' => e = .returned (.int .i64 0) ∧ w = w' := by
  go_enter Tryz.func27, Tryz.ntmps27
  go_wp2_with fail
  refine (bmade_nay v _ h).mono ?_
  rintro e w' ⟨rfl, rfl⟩
  go_wp2_with fail
  go_ret
  exact ⟨rfl, rfl⟩
theorem gen_at {Pr : Nat → Prop} {w : World} {A : Adr} {x : BS} (h : BAt Pr w A x) :
    Calls Tryz.prog 33 #[.pointer (some ⟨A.b, 0, none⟩)] w fun e w' => e = .returned (.int .u64 (nth x.now 0 : Int)) ∧ w = w' := by
  have c43 := h.c43
  have cg := h.gen
  clear h
  go_enter Tryz.func33, Tryz.ntmps33
  go_wp2_with fail
  refine (bmade_self A.b _ c43).mono ?_
  rintro e w' ⟨rfl, rfl⟩
  go_wp2_with fail
  go_ret
  exact ⟨rfl, rfl⟩
theorem blocks_at {Pr : Nat → Prop} {w : World} {A : Adr} {x : BS} (h : BAt Pr w A x) (hn : nth x.now 1 ≤ 4096) :
    Calls Tryz.prog 27 #[.pointer (some ⟨A.b, 0, none⟩)] w fun e w' => e = .returned (.int .i64 (nth x.now 1 : Int)) ∧ w = w' := by
  have c43 := h.c43
  have cg := h.blk
  clear h
  go_enter Tryz.func27, Tryz.ntmps27
  go_wp2_with fail
  refine (bmade_self A.b _ c43).mono ?_
  rintro e w' ⟨rfl, rfl⟩
  go_wp2_with fail
  go_ret
  exact ⟨rfl, rfl⟩
theorem root_at {Pr : Nat → Prop} {w : World} {A : Adr} {x : BS} (h : BAt Pr w A x) (i : Nat) (hi : i < 8) (hn : nth x.now (2 + i) ≤ 4096) :
    Calls Tryz.prog 43 #[.pointer (some ⟨A.b, 0, none⟩), .int .i64 (i : Int)] w fun e w' => e = .returned (.int .i64 (nth x.now (2 + i) : Int)) ∧ w = w' := by
  have c43 := h.c43
  have cg := h.root i hi
  clear h
  go_enter Tryz.func43, Tryz.ntmps43
  go_wp2_with fail
  refine (bmade_self A.b _ c43).mono ?_
  rintro e w' ⟨rfl, rfl⟩
  go_wp2_with fail
  refine (slot_yes i (by omega) (by omega) _).mono ?_
  rintro e w' ⟨rfl, rfl⟩
  go_wp2_with fail
  go_ret
  exact ⟨rfl, rfl⟩
theorem has_yes {Pr : Nat → Prop} {w : World} {A : Adr} {x : BS} (h : BAt Pr w A x) (hn : nth x.now 1 ≤ 4096) (i : Int) (h0 : 0 ≤ i) (h1 : i < (nth x.now 1 : Int)) :
    Calls Tryz.prog 103 #[.pointer (some ⟨A.b, 0, none⟩), .int .i64 i] w fun e w' => e = .returned (.bool true) ∧ w = w' := by
  have H := Lib.hid h
  clear h
  go_enter Tryz.func103, Tryz.ntmps103
  go_wp2_with fail
  refine (blocks_at H.out hn).mono ?_
  rintro e w' ⟨rfl, rfl⟩
  go_wp2_with fail
  go_ret
  exact ⟨rfl, rfl⟩
theorem behind_yes {Pr : Nat → Prop} {w : World} {A : Adr} {x : BS} (h : BAt Pr w A x) (hn : nth x.now 1 ≤ 4096) (i : Int) (h0 : 2 ≤ i) (h1 : i < (nth x.now 1 : Int)) :
    Calls Tryz.prog 106 #[.pointer (some ⟨A.b, 0, none⟩), .int .i64 i] w fun e w' => e = .returned (.bool true) ∧ w = w' := by
  have H := Lib.hid h
  clear h
  go_enter Tryz.func106, Tryz.ntmps106
  go_wp2_with fail
  refine (has_yes H.out hn i (by omega) h1).mono ?_
  rintro e w' ⟨rfl, rfl⟩
  go_wp2_with fail
  go_ret
  exact ⟨rfl, rfl⟩
theorem count_at {Pr : Nat → Prop} {w : World} {A : Adr} {x : BS} (h : BAt Pr w A x) (i : Nat) (hi : i < x.n) :
    Calls Tryz.prog 22 #[.pointer (some ⟨A.b, 0, none⟩), .int .i64 (i : Int)] w fun e w' => e = .returned (.int .i64 ((x.q.s.cnt i).toNat : Int)) ∧ w = w' := by
  have c43 := h.c43
  have c1 := h.c1
  have H := Lib.hid h
  clear h
  go_enter Tryz.func22, Tryz.ntmps22
  go_wp2_with fail
  refine (bmade_self A.b _ c43).mono ?_
  rintro e w' ⟨rfl, rfl⟩
  go_wp2_with fail
  refine (get_yes H.out.pat.tally i hi).mono ?_
  rintro e w' ⟨rfl, rfl⟩
  go_wp2_with fail
  go_ret
  exact ⟨rfl, rfl⟩
theorem waits_at {Pr : Nat → Prop} {w : World} {A : Adr} {x : BS} (h : BAt Pr w A x) :
    Calls Tryz.prog 30 #[.pointer (some ⟨A.b, 0, none⟩)] w fun e w' => e = .returned (.int .i64 (x.q.s.idle : Int)) ∧ Below w.heap.size w w' := by
  have c43 := h.c43
  have c1 := h.c1
  have H := Lib.hid h
  clear h
  go_enter Tryz.func30, Tryz.ntmps30
  go_wp2_with fail
  refine (bmade_self A.b _ c43).mono ?_
  rintro e w' ⟨rfl, rfl⟩
  go_wp2_with fail
  refine (idle_at H.out.pat.tally).mono ?_
  rintro e w1 ⟨rfl, B1⟩
  have HB := Lib.hid B1
  clear B1 c1 c43
  go_wp2_with fail
  go_ret
  exact ⟨rfl, HB.out⟩
set_option maxHeartbeats 1000000 in
theorem room_at {Pr : Nat → Prop} {w : World} {A : Adr} {x : BS} (h : BAt Pr w A x) (hn : nth x.now 1 ≤ 4096) (he : nth x.now 1 = x.n) (hr : need x.n ≤ x.q.room) :
    Calls Tryz.prog 24 #[.pointer (some ⟨A.b, 0, none⟩)] w fun e w' => e = .returned (.int .i64 ((x.q.room - need x.n : Nat) : Int)) ∧ w = w' := by
  have c43 := h.c43
  have c2 := h.c2
  have H := Lib.hid h
  have hq : x.q.room ≤ 4096 := Nat.le_trans x.q.room_le h.pat.ok.s.hi
  clear h
  go_enter Tryz.func24, Tryz.ntmps24
  go_wp2_with fail
  refine (bmade_self A.b _ c43).mono ?_
  rintro e w' ⟨rfl, rfl⟩
  go_wp2_with fail
  refine (Pk.room_at H.out.pat).mono ?_
  rintro e w' ⟨rfl, rfl⟩
  go_wp2_with fail
  refine (blocks_at H.out hn).mono ?_
  rintro e w' ⟨rfl, rfl⟩
  go_wp2_with fail
  refine (need_eq x.n (by rw [← he]; exact hn) _).mono ?_
  rintro e w' ⟨rfl, rfl⟩
  clear he hn
  have e1 : max 0 ((x.q.room : Int) - (need x.n : Int)) = ((x.q.room - need x.n : Nat) : Int) := by omega
  go_wp2_with fail
  go_ret
  exact ⟨by first | rfl | (congr 2; omega), rfl⟩
end Go.Proofs.YtogchamogbendaaGreat.Bs
/- The map of what is fresh: looked up, put, struck, cleared; a copy of bytes; Fresh, Read. -/
namespace Go.Proofs.YtogchamogbendaaGreat.Bs
set_option maxRecDepth 100000
open Go.RowKit Go.Proofs.YtogchamogbendaaGreat.Oct Go.Proofs.YtogchamogbendaaGreat.Mv Go.Proofs.YtogchamogbendaaGreat.Tl Go.Proofs.YtogchamogbendaaGreat.Pk Go.Proofs.YtogchamogbendaaGreat.Pl Go.Maps Go.ChangeMaps
open Go.Proofs.YtogchamogbendaaGreat.Dsk (dT)
open Go.Proofs.YtogchamogbendaaGreat.Su (Sup nth scells)
set_option linter.unusedVariables false
set_option linter.unusedSimpArgs false

theorem zero_bytes (w : World) : (zeroValue 45).run Tryz.prog w = .ok (.slice none 0 0) w := by kernel_rfl
/-- A block's bytes, if it is fresh. -/
theorem fm_look {w : World} {fm : Nat} {fr : Nat → Option (List UInt8)} (h : FMap w fm fr) (i : Nat) (hi : i ≤ 4096) :
    ∃ v, (Instr.lookup 70 (.map (some fm)) (.int .i64 (i : Int)) true).run Tryz.prog w = .ok (.tuple #[v, .bool (fr i).isSome]) w ∧
      (Instr.lookup 70 (.map (some fm)) (.int .i64 (i : Int)) false).run Tryz.prog w = .ok v w ∧
      ∀ bs, fr i = some bs → bs.length = 128 ∧ ∃ g c, v = .slice (some ⟨g, 0, none⟩) 128 c ∧ Byt w g bs ∧ 128 ≤ c ∧ c ≤ maxLen := by
  obtain ⟨nn, D, h, hs⟩ := h
  obtain ⟨v, p, hrun, hv⟩ := h.look_ok law Tryz.underlying70 (zero_bytes w) (zd := .agg []) (zp := []) rfl (key_of i hi)
  obtain ⟨v2, p2, hrun2, hv2⟩ := h.lookup law Tryz.underlying70 (zero_bytes w) (zd := .agg []) (zp := []) rfl (key_of i hi)
  have hh : Maps.has D (key i) = (fr i).isSome := by
    rw [Bool.eq_iff_iff, hs.has]
    exact ⟨fun ⟨j, hj, h1⟩ => by rw [key_inj hj]; exact h1, fun h1 => ⟨i, rfl, h1⟩⟩
  have e : v2 = v := sliceR_one hv2 hv
  subst e
  rw [hh] at hrun
  refine ⟨v2, hrun, hrun2, fun bs hb => ?_⟩
  obtain ⟨_, h2, g, c, h3, h4, h5⟩ := hs.at' i bs hb
  rw [h3] at hv
  exact ⟨h2, g, c, sliceR_agg hv, h4, h5⟩
def upd (fr : Nat → Option (List UInt8)) (i : Nat) (o : Option (List UInt8)) : Nat → Option (List UInt8) := fun j => if j = i then o else fr j
theorem butL_map {w w' : World} {b : Nat} (h : w.mapTurned w' b) : ButL w w' [b] := ButL.grown h.grown
theorem Byt.but {w w' : World} {g fm : Nat} {bs : List UInt8} {es : Array MapEntry} {cl : Nat} (h : Byt w g bs) (k : ButL w w' [fm]) (hm : w.heap[fm]? = some (.map es cl)) : Byt w' g bs :=
  h.block fun cs fr e => k.block g (lt_of_heap e) (by
    intro hg
    have : g = fm := by simpa using hg
    subst this
    rw [e] at hm
    cases hm)
theorem own_map {w : World} {fm nn : Nat} {D : DataW Unit} (h : w.ownsMap Tryz.prog 3 sliceR fm nn D) : ∃ es cl, w.heap[fm]? = some (.map es cl) := by
  obtain ⟨es, cl, h, _⟩ := h
  exact ⟨es, cl, h⟩
theorem fr_perm {w : World} {fm nn : Nat} {D : DataW Unit} (h : w.ownsMap Tryz.prog 3 sliceR fm nn D) : w.ownsMap Tryz.prog 3 sliceR fm (Maps.size D) D := by
  obtain ⟨es, cl, h1, h2, h3, rfl⟩ := h
  exact ⟨es, cl, h1, h2, by simp [Maps.size, length_sorted], rfl⟩
/-- Which blocks are fresh, rising. -/
def frL (fr : Nat → Option (List UInt8)) : List Nat := (List.range 4097).filter fun i => (fr i).isSome
theorem mem_frL {fr : Nat → Option (List UInt8)} {i : Nat} : i ∈ frL fr ↔ i ≤ 4096 ∧ (fr i).isSome = true := by
  unfold frL
  rw [List.mem_filter, List.mem_range]
  exact ⟨fun h => ⟨by omega, h.2⟩, fun h => ⟨by omega, h.2⟩⟩
theorem fr_keys {w : World} {fm nn : Nat} {D : DataW Unit} {fr : Nat → Option (List UInt8)} (h : w.ownsMap Tryz.prog 3 sliceR fm nn D) (hs : FSays w D fr) : ((frL fr).map fun i : Nat => (i : Int)).Perm (intKeys D) := by
  refine CollectedI.perm (left := fun _ => false) (k := 3) ⟨?_, fun x => ?_⟩ h law Tryz.underlying3 (fun _ => rfl)
  · unfold frL
    refine List.pairwise_map.2 (List.Pairwise.imp (fun {a b} (h : a < b) => ?_) (List.pairwise_lt_range.filter _))
    omega
  · simp only [List.mem_map, and_true]
    rw [hs.has]
    constructor
    · rintro ⟨i, hi, rfl⟩
      exact ⟨i, rfl, (mem_frL.1 hi).2⟩
    · rintro ⟨i, e, hm⟩
      simp only [key, Lit.int.injEq, true_and] at e
      obtain ⟨bs, hb⟩ := Option.isSome_iff_exists.1 hm
      exact ⟨i, mem_frL.2 ⟨(hs.at' i bs hb).1, hm⟩, e.symm⟩
/-- At most so many blocks are fresh as there are. -/
theorem fr_few {w : World} {fm nn : Nat} {D : DataW Unit} {fr : Nat → Option (List UInt8)} (h : w.ownsMap Tryz.prog 3 sliceR fm nn D) (hs : FSays w D fr) : Maps.size D ≤ 4097 := by
  have := (fr_keys h hs).length_eq
  obtain ⟨es, rfl⟩ := h.isMap
  rw [List.length_map] at this
  have e1 : Maps.size (DataW.map es : DataW Unit) = (frL fr).length := by
    rw [this]
    simp [Maps.size, intKeys]
  rw [e1]
  unfold frL
  have := List.length_filter_le (fun i => (fr i).isSome) (List.range 4097)
  rwa [List.length_range] at this
/-- A block is fresh, and has these bytes. -/
theorem fm_put {w : World} {fm : Nat} {fr : Nat → Option (List UInt8)} (h : FMap w fm fr) (i : Nat) (hi : i ≤ 4096) (bs : List UInt8) (hl : bs.length = 128) (g c : Nat) (hb : Byt w g bs) (h1 : 128 ≤ c) (h2 : c ≤ maxLen) :
    ∃ w', (Instr.mapUpdate 70 (.map (some fm)) (.int .i64 (i : Int)) (.slice (some ⟨g, 0, none⟩) 128 c)).run Tryz.prog w = .ok () w' ∧ FMap w' fm (upd fr i (some bs)) ∧ ButL w w' [fm] := by
  obtain ⟨nn, D, h, hs⟩ := h
  obtain ⟨es, cl, hm⟩ := own_map h
  have hfew := fr_few h hs
  obtain ⟨w', hrun, ho, ht⟩ := (fr_perm h).store law Tryz.underlying70 (by unfold maxLen; omega) (key_of i hi) (sliceR_mk g c)
  have kb := butL_map ht
  refine ⟨w', hrun, ⟨_, _, ho, ?_, ?_⟩, kb⟩
  · intro k
    by_cases e : k = key i
    · subst e
      rw [has_put_same h.isMap (key_lit i)]
      exact ⟨fun _ => ⟨i, rfl, by simp [upd]⟩, fun _ => rfl⟩
    · rw [has_put_other e, hs.has]
      exact ⟨fun ⟨j, hj, h3⟩ => ⟨j, hj, by unfold upd; rw [if_neg (fun e2 => e (by rw [hj, e2]))]; exact h3⟩, fun ⟨j, hj, h3⟩ => ⟨j, hj, by unfold upd at h3; rwa [if_neg (fun e2 => e (by rw [hj, e2]))] at h3⟩⟩
  · intro j bs' hj
    unfold upd at hj
    by_cases e : j = i
    · subst e
      rw [if_pos rfl] at hj
      cases hj
      exact ⟨hi, hl, g, c, fun z => atKey_put_same h.isMap (key_lit j) _ z, hb.but kb hm, h1, h2⟩
    · rw [if_neg e] at hj
      obtain ⟨h3, h4, g', c', h5, h6, h7⟩ := hs.at' j bs' hj
      exact ⟨h3, h4, g', c', fun z => by rw [atKey_put_other (fun e2 => e (key_inj e2))]; exact h5 z, h6.but kb hm, h7⟩
/-- A block is not fresh any more. -/
theorem fm_del {w : World} {fm : Nat} {fr : Nat → Option (List UInt8)} (h : FMap w fm fr) (i : Nat) (hi : i ≤ 4096) (ty : TypeId) :
    ∃ w', (Builtin.delete_ #[70, 3] ty #[.map (some fm), .int .i64 (i : Int)]).run Tryz.prog w = .ok (.tuple #[]) w' ∧ FMap w' fm (upd fr i none) ∧ ButL w w' [fm] := by
  obtain ⟨nn, D, h, hs⟩ := h
  obtain ⟨es, cl, hm⟩ := own_map h
  obtain ⟨w', hrun, ho, ht⟩ := h.drop law Tryz.underlying70 (key_of i hi) ty
  have kb := butL_map ht
  refine ⟨w', hrun, ⟨_, _, ho, ?_, ?_⟩, kb⟩
  · intro k
    by_cases e : k = key i
    · subst e
      rw [has_del_same]
      refine ⟨fun h1 => (by cases h1), fun ⟨j, hj, h3⟩ => ?_⟩
      rw [← key_inj hj] at h3
      simp [upd] at h3
    · rw [has_del_other e, hs.has]
      exact ⟨fun ⟨j, hj, h3⟩ => ⟨j, hj, by unfold upd; rw [if_neg (fun e2 => e (by rw [hj, e2]))]; exact h3⟩, fun ⟨j, hj, h3⟩ => ⟨j, hj, by unfold upd at h3; rwa [if_neg (fun e2 => e (by rw [hj, e2]))] at h3⟩⟩
  · intro j bs' hj
    unfold upd at hj
    by_cases e : j = i
    · rw [if_pos e] at hj
      cases hj
    · rw [if_neg e] at hj
      obtain ⟨h3, h4, g', c', h5, h6, h7⟩ := hs.at' j bs' hj
      exact ⟨h3, h4, g', c', fun z => by rw [atKey_del_other (fun e2 => e (key_inj e2))]; exact h5 z, h6.but kb hm, h7⟩
/-- Nothing is fresh any more. -/
theorem fm_clear {w : World} {fm : Nat} {fr : Nat → Option (List UInt8)} (h : FMap w fm fr) :
    ∃ w', (∀ ty, (Builtin.clear_ #[70] ty #[.map (some fm)]).run Tryz.prog w = .ok (.tuple #[]) w') ∧ FMap w' fm (fun _ => none) ∧ ButL w w' [fm] := by
  obtain ⟨nn, D, ⟨es, clock, hb, F, hs, rfl⟩, _⟩ := h
  refine ⟨setBlock w fm (.map #[] clock), fun ty => ?_, ⟨0, .map [], ⟨#[], clock, heap_setBlock_same hb _, ⟨by simp, MapKept.stamped_empty clock, by simp⟩, Nat.le_refl _, rfl⟩, ?_, ?_⟩, butL_map ⟨es, clock, #[], clock, hb, rfl⟩⟩
  · simp [Builtin.clear_, run_underlying Tryz.underlying70, MapKept.run_getObj_map hb, MapKept.run_setObj_map _ hb, Result.andThen, setBlock]
  · intro k
    exact ⟨fun h => (by cases h), fun ⟨j, _, h⟩ => (by cases h)⟩
  · intro i bs h
    cases h
theorem fm_made (w : World) : FMap (w.alloc (.map #[] 0)) w.heap.size (fun _ => none) :=
  ⟨0, .map [], World.ownsMap_made w _ _ _, fun k => ⟨fun h => (by cases h), fun ⟨j, _, h⟩ => (by cases h)⟩, fun i bs h => by cases h⟩
/-! ### A copy of bytes -/
theorem own_byt {w : World} {base g n c : Nat} {bs : List UInt8} (h : Oct.Own w base (.slice (some ⟨g, 0, none⟩) n c) bs) : Byt w g bs := by
  rcases h.2 with ⟨h0, _⟩ | ⟨g', cap, cur, hv, _, hg, _, _, _, ht⟩
  · cases h0
  · cases hv
    exact ⟨Oct.Own.has h, _, _, hg⟩
theorem eql_bytes (x : Addr) (n c : Nat) (w : World) : (binOp .eql 45 (.slice (some x) n c) (.slice none 0 0)).run Tryz.prog w = .ok (.bool false) w := by
  have h : ∀ d : Nat, (Op.equalIn (d + 1) 45 (.slice (some x) n c) (.slice none 0 0)).run Tryz.prog w = .ok false w := fun d => by
    simp [Op.equalIn, run_underlying Tryz.underlying45]
  simp only [binOp]
  simp [Op.equal, Op.maxDepth, h 9999]
/-- Bytes in memory of their own. -/
def CloneOut (w : World) (bs : List UInt8) (e : Ending) (w' : World) : Prop := ∃ g c, e = .returned (.slice (some ⟨g, 0, none⟩) 128 c) ∧ Byt w' g bs ∧ 128 ≤ c ∧ c ≤ maxLen ∧ w.heap.size ≤ g ∧ Below w.heap.size w w'
theorem clone_any {w : World} {A : Option Addr} {c : Nat} {bs : List UInt8} (hl : bs.length = 128) (hT : Oct.Told w A bs) :
    Calls Tryz.prog 97 #[.slice A 128 c] w (CloneOut w bs) := by
  obtain ⟨b, o, rfl, hH⟩ : ∃ b o, A = some ⟨b, o, none⟩ ∧ Has w b o bs := by
    rcases hT with rfl | h
    · cases hl
    · exact h
  obtain ⟨v', w', hrun, ho, hb⟩ := run_append_bytes (w.alloc (.cells #[] 5)) 45 w.heap.size _ [] bs (own_none w) (some ⟨b, o, none⟩) 128 c hl (Told.alloc hH.told _) (fun h => by cases h) (by simp) (alloc_base w _)
  obtain ⟨A', cap, rfl, _, h1, h2, h3⟩ := ho.slice
  obtain ⟨g, rfl, h4, h5, _⟩ := h3 (by intro e; rw [List.nil_append] at e; rw [e] at hl; cases hl)
  have HO := Lib.hid (own_byt ho)
  rw [List.nil_append, hl] at hrun h1
  rw [List.nil_append] at HO
  have HB := Lib.hid (show Below w.heap.size w w' from ((Below.refl w.heap.size w).alloc (Nat.le_refl _) (.cells #[] 5)).trans hb)
  have heq := eql_bytes ⟨b, o, none⟩ 128 c w
  clear ho h3 hT hH hb
  go_enter Tryz.func97, Tryz.ntmps97
  go_wp2_with (at_builtin; refine wpList_append_run rfl (.tmp 5) (.tmp 6) 45 rfl _ _ rfl rfl _ w' hrun ?_)
  go_ret
  exact ⟨g, cap, rfl, HO.out, h1, h2, h4, HB.out⟩
end Go.Proofs.YtogchamogbendaaGreat.Bs
/- Numbers of one kind as those of another; parts of rows. (Written by bin/gen_bsf.py.) -/
namespace Go.Proofs.YtogchamogbendaaGreat.Bs
set_option maxRecDepth 100000
open Go.RowKit Go.Proofs.YtogchamogbendaaGreat.Oct Go.Proofs.YtogchamogbendaaGreat.Mv Go.Proofs.YtogchamogbendaaGreat.Tl Go.Proofs.YtogchamogbendaaGreat.Pk Go.Proofs.YtogchamogbendaaGreat.Pl Go.Maps
set_option linter.unusedVariables false
set_option linter.unusedSimpArgs false

/-- Numbers as values of a kind. -/
def kv (k : IntKind) (l : List Nat) : List Value := l.map fun n : Nat => .int k (n : Int)
theorem length_kv (k : IntKind) (l : List Nat) : (kv k l).length = l.length := by simp [kv]
theorem kv_at (k : IntKind) (l : List Nat) {i : Nat} (h : i < l.length) : (kv k l)[i]? = some (.int k ((l.getD i 0 : Nat) : Int)) := by
  simp [kv, h]
theorem kv_ints (l : List Nat) : kv .i64 l = ints l := rfl
theorem kv_nums (l : List UInt16) : kv .u16 (l.map UInt16.toNat) = nums l := by simp [kv, nums, Tl.num]
theorem kv_told {w : World} {A : Option Addr} {k : IntKind} {l : List Nat} (h : ToldV w A (kv k l)) {j : Nat} (hj : j < l.length) : ∃ b o, A = some ⟨b, o, none⟩ ∧ b < w.heap.size ∧ w.cell? ⟨b, o + j, none⟩ = some (.int k ((l.getD j 0 : Nat) : Int)) := by
  obtain ⟨b, o, ha, h2⟩ := h.has (by rw [length_kv]; omega)
  exact ⟨b, o, ha, h2.lt (by rw [length_kv]; omega), h2.cellAt (kv_at k l hj)⟩
/-- The first k of l; noughts behind. -/
def upTo (l : List Nat) (k : Nat) : List Nat := l.take k ++ List.replicate (l.length - k) 0
theorem length_upTo (l : List Nat) {k : Nat} (h : k ≤ l.length) : (upTo l k).length = l.length := by simp [upTo]; omega
theorem upTo_zero (l : List Nat) : upTo l 0 = List.replicate l.length 0 := by simp [upTo]
theorem upTo_all (l : List Nat) : upTo l l.length = l := by
  unfold upTo
  rw [Nat.sub_self, List.take_length]
  exact List.append_nil l
theorem upTo_set (l : List Nat) {k : Nat} (h : k < l.length) : (upTo l k).set k (l.getD k 0) = upTo l (k + 1) := by
  unfold upTo
  rw [List.set_append_right _ _ (by rw [List.length_take]; omega)]
  have e1 : l.length - k = (l.length - (k + 1)) + 1 := by omega
  rw [e1, List.replicate_succ, List.length_take, Nat.min_eq_left (by omega), Nat.sub_self, List.set_cons_zero]
  rw [List.take_add_one, List.getElem?_eq_getElem h, List.append_assoc, List.getD_eq_getElem?_getD, List.getElem?_eq_getElem h]
  rfl
theorem kv_set (k : IntKind) (l : List Nat) (i n : Nat) : (kv k l).set i (.int k (n : Int)) = kv k (l.set i n) := by simp [kv, List.map_set]
theorem mem_getD {l : List Nat} {i : Nat} (h : i < l.length) : l.getD i 0 ∈ l := by
  rw [List.getD_eq_getElem?_getD, List.getElem?_eq_getElem h]
  exact List.getElem_mem h
theorem u32_info : (Tryz.prog.info? 66).map (fun i => (i.zero, i.size, i.bytes)) = some (some (.int .u32 0), 1, 4) := by kernel_rfl
theorem u16_info : (Tryz.prog.info? 34).map (fun i => (i.zero, i.size, i.bytes)) = some (some (.int .u16 0), 1, 2) := by kernel_rfl
theorem int_info : (Tryz.prog.info? 3).map (fun i => (i.zero, i.size, i.bytes)) = some (some (.int .i64 0), 1, 8) := by kernel_rfl
theorem made_kv (k : IntKind) (n : Nat) : madeCells (Value.int k 0).cells n = (kv k (List.replicate n 0)).toArray := by
  apply Array.ext
  · simp [madeCells, kv, Value.cells]
  · intro i h1 h2
    simp [madeCells, kv, Value.cells, Nat.mod_one]

theorem make_u32 (w : World) (n : Nat) (hn : n ≤ 4096) :
    (Instr.makeSlice 225 (.int .i64 (n : Int)) (.int .i64 (n : Int))).run Tryz.prog w = .ok (.slice (some ⟨w.heap.size, 0, none⟩) n n) (w.alloc (.cells (kv .u32 (List.replicate n 0)).toArray 66)) := by
  obtain ⟨i0, hi, hz0, hz1, hz2⟩ := info_parts u32_info
  have h := run_make (P := Tryz.prog) w 225 66 i0 _ Tryz.underlying225 hi hz0 .i64 .i64 n n (by omega) (by omega) (by rw [hz2]; omega) (by omega)
  rw [Int.toNat_natCast, made_kv, hz1, Nat.mul_one] at h
  exact h
theorem make_u16 (w : World) (n : Nat) (hn : n ≤ 4096) :
    (Instr.makeSlice 134 (.int .i64 (n : Int)) (.int .i64 (n : Int))).run Tryz.prog w = .ok (.slice (some ⟨w.heap.size, 0, none⟩) n n) (w.alloc (.cells (kv .u16 (List.replicate n 0)).toArray 34)) := by
  obtain ⟨i0, hi, hz0, hz1, hz2⟩ := info_parts u16_info
  have h := run_make (P := Tryz.prog) w 134 34 i0 _ Tryz.underlying134 hi hz0 .i64 .i64 n n (by omega) (by omega) (by rw [hz2]; omega) (by omega)
  rw [Int.toNat_natCast, made_kv, hz1, Nat.mul_one] at h
  exact h
theorem make_i64 (w : World) (n : Nat) (hn : n ≤ 4096) :
    (Instr.makeSlice 51 (.int .i64 (n : Int)) (.int .i64 (n : Int))).run Tryz.prog w = .ok (.slice (some ⟨w.heap.size, 0, none⟩) n n) (w.alloc (.cells (kv .i64 (List.replicate n 0)).toArray 3)) := by
  obtain ⟨i0, hi, hz0, hz1, hz2⟩ := info_parts int_info
  have h := run_make (P := Tryz.prog) w 51 3 i0 _ Tryz.underlying51 hi hz0 .i64 .i64 n n (by omega) (by omega) (by rw [hz2]; omega) (by omega)
  rw [Int.toNat_natCast, made_kv, hz1, Nat.mul_one] at h
  exact h
set_option maxHeartbeats 1000000 in
theorem as_int_uint32 {w : World} {A : Option Addr} {c : Nat} {l : List Nat} (h : ToldV w A (kv .u32 l)) (hl : l.length ≤ 4096) (hb : ∀ x ∈ l, x < 4294967296) :
    Calls Tryz.prog 137 #[.slice A l.length c] w fun e w' => ∃ g, e = .returned (.slice (some ⟨g, 0, none⟩) l.length l.length) ∧ RowV w' g 3 (kv .i64 l) ∧ w.heap.size ≤ g ∧ Below w.heap.size w w' := by
  have H := Lib.hid h
  have HBD := Lib.hid hb
  have hmk := make_i64 w l.length hl
  have hz : (w.alloc (.cells (kv .i64 (List.replicate l.length 0)).toArray 3)).heap.size = w.heap.size + 1 := by simp
  have R1 := alloc_rowV w 3 (kv .i64 (List.replicate l.length 0))
  have B1 := (Below.refl w.heap.size w).alloc (Nat.le_refl _) (.cells (kv .i64 (List.replicate l.length 0)).toArray 3)
  rw [← upTo_zero] at hmk hz R1 B1
  generalize w.alloc (.cells (kv .i64 (upTo l 0)).toArray 3) = w1 at *
  have HR := Lib.hid R1
  have HB := Lib.hid B1
  obtain ⟨g, hg⟩ : ∃ g, g = w.heap.size := ⟨_, rfl⟩
  rw [← hg] at hmk HR ⊢
  have HG := Lib.hid hg
  have hl2 : (l.length : Int) ≤ 4096 := by omega
  clear h hb R1 B1 hz hg
  go_enter Tryz.func137, Tryz.ntmps137
  go_wp2_with fail
  clear hmk
  go_loopw [11] (fun i wr => ∃ k : Nat, k ≤ l.length ∧ i = .int .i64 (k : Int) ∧ Hid (RowV wr g 3 (kv .i64 (upTo l k))) ∧ Hid (Below w.heap.size w wr)) (fun i _ => l.length - (Go.RowKit.intOf i).toNat)
  case atStart => exact ⟨0, Nat.zero_le _, rfl, HR, HB⟩
  case round =>
    obtain ⟨k, hk, rfl, HRr, HBr⟩ := hrel
    by_cases hlt : k < l.length
    · have hki : (k : Int) < (l.length : Int) := by omega
      have hge0 : (0 : Int) ≤ (k : Int) := by omega
      obtain ⟨b1, o1, rfl, hb1, hc1⟩ := kv_told H.out hlt
      have c1' : wr.cell? ⟨b1, o1 + k, none⟩ = some (.int .u32 ((l.getD k 0 : Nat) : Int)) := (HBr.out.cell (p := ⟨b1, o1 + k, none⟩) hb1).trans hc1
      have hbd := HBD.out _ (mem_getD hlt)
      have HS := Lib.hid (HRr.out.set k (.int .i64 ((l.getD k 0 : Nat) : Int)))
      rw [kv_set, upTo_set l hlt] at HS
      have fz := HRr.out.free k
      have hc := HRr.out.cellAt (i := k) (kv_at .i64 (upTo l k) (by rw [length_upTo l (by omega)]; exact hlt))
      have HU := Lib.hid (ButL.set wr g k (.int .i64 ((l.getD k 0 : Nat) : Int)))
      clear hc1
      generalize l.getD k 0 = x at *
      have hx0 : (0 : Int) ≤ (x : Int) := by omega
      have hx1 : (x : Int) < 4294967296 := by omega
      have hw : IntKind.i64.wrap (x : Int) = (x : Int) := by simp [IntKind.wrap, IntKind.signed, IntKind.bits]; omega
      have hk63 : (k : Int) < 9223372036854775807 := by omega
      go_wp2_with fail
      exact ⟨⟨k + 1, by omega, by go_num, HS, Lib.hid (HBr.out.trans (HU.out.below (by simp; have := HG.out; omega) HBr.out.size))⟩, by simp [Go.RowKit.intOf]; omega⟩
    · have hki : ¬ (k : Int) < (l.length : Int) := by omega
      obtain rfl : k = l.length := by omega
      go_wp2_with fail
      go_ret
      refine ⟨g, rfl, ?_, by rw [HG.out]; exact Nat.le_refl _, by rw [HG.out]; exact HBr.out⟩
      have := HRr.out
      rwa [upTo_all] at this
set_option maxHeartbeats 1000000 in
theorem as_int_uint16 {w : World} {A : Option Addr} {c : Nat} {l : List Nat} (h : ToldV w A (kv .u16 l)) (hl : l.length ≤ 4096) (hb : ∀ x ∈ l, x < 65536) :
    Calls Tryz.prog 139 #[.slice A l.length c] w fun e w' => ∃ g, e = .returned (.slice (some ⟨g, 0, none⟩) l.length l.length) ∧ RowV w' g 3 (kv .i64 l) ∧ w.heap.size ≤ g ∧ Below w.heap.size w w' := by
  have H := Lib.hid h
  have HBD := Lib.hid hb
  have hmk := make_i64 w l.length hl
  have hz : (w.alloc (.cells (kv .i64 (List.replicate l.length 0)).toArray 3)).heap.size = w.heap.size + 1 := by simp
  have R1 := alloc_rowV w 3 (kv .i64 (List.replicate l.length 0))
  have B1 := (Below.refl w.heap.size w).alloc (Nat.le_refl _) (.cells (kv .i64 (List.replicate l.length 0)).toArray 3)
  rw [← upTo_zero] at hmk hz R1 B1
  generalize w.alloc (.cells (kv .i64 (upTo l 0)).toArray 3) = w1 at *
  have HR := Lib.hid R1
  have HB := Lib.hid B1
  obtain ⟨g, hg⟩ : ∃ g, g = w.heap.size := ⟨_, rfl⟩
  rw [← hg] at hmk HR ⊢
  have HG := Lib.hid hg
  have hl2 : (l.length : Int) ≤ 4096 := by omega
  clear h hb R1 B1 hz hg
  go_enter Tryz.func139, Tryz.ntmps139
  go_wp2_with fail
  clear hmk
  go_loopw [11] (fun i wr => ∃ k : Nat, k ≤ l.length ∧ i = .int .i64 (k : Int) ∧ Hid (RowV wr g 3 (kv .i64 (upTo l k))) ∧ Hid (Below w.heap.size w wr)) (fun i _ => l.length - (Go.RowKit.intOf i).toNat)
  case atStart => exact ⟨0, Nat.zero_le _, rfl, HR, HB⟩
  case round =>
    obtain ⟨k, hk, rfl, HRr, HBr⟩ := hrel
    by_cases hlt : k < l.length
    · have hki : (k : Int) < (l.length : Int) := by omega
      have hge0 : (0 : Int) ≤ (k : Int) := by omega
      obtain ⟨b1, o1, rfl, hb1, hc1⟩ := kv_told H.out hlt
      have c1' : wr.cell? ⟨b1, o1 + k, none⟩ = some (.int .u16 ((l.getD k 0 : Nat) : Int)) := (HBr.out.cell (p := ⟨b1, o1 + k, none⟩) hb1).trans hc1
      have hbd := HBD.out _ (mem_getD hlt)
      have HS := Lib.hid (HRr.out.set k (.int .i64 ((l.getD k 0 : Nat) : Int)))
      rw [kv_set, upTo_set l hlt] at HS
      have fz := HRr.out.free k
      have hc := HRr.out.cellAt (i := k) (kv_at .i64 (upTo l k) (by rw [length_upTo l (by omega)]; exact hlt))
      have HU := Lib.hid (ButL.set wr g k (.int .i64 ((l.getD k 0 : Nat) : Int)))
      clear hc1
      generalize l.getD k 0 = x at *
      have hx0 : (0 : Int) ≤ (x : Int) := by omega
      have hx1 : (x : Int) < 65536 := by omega
      have hw : IntKind.i64.wrap (x : Int) = (x : Int) := by simp [IntKind.wrap, IntKind.signed, IntKind.bits]; omega
      have hk63 : (k : Int) < 9223372036854775807 := by omega
      go_wp2_with fail
      exact ⟨⟨k + 1, by omega, by go_num, HS, Lib.hid (HBr.out.trans (HU.out.below (by simp; have := HG.out; omega) HBr.out.size))⟩, by simp [Go.RowKit.intOf]; omega⟩
    · have hki : ¬ (k : Int) < (l.length : Int) := by omega
      obtain rfl : k = l.length := by omega
      go_wp2_with fail
      go_ret
      refine ⟨g, rfl, ?_, by rw [HG.out]; exact Nat.le_refl _, by rw [HG.out]; exact HBr.out⟩
      have := HRr.out
      rwa [upTo_all] at this
set_option maxHeartbeats 1000000 in
theorem as_uint32_int {w : World} {A : Option Addr} {c : Nat} {l : List Nat} (h : ToldV w A (kv .i64 l)) (hl : l.length ≤ 4096) (hb : ∀ x ∈ l, x < 4294967296) :
    Calls Tryz.prog 146 #[.slice A l.length c] w fun e w' => ∃ g, e = .returned (.slice (some ⟨g, 0, none⟩) l.length l.length) ∧ RowV w' g 66 (kv .u32 l) ∧ w.heap.size ≤ g ∧ Below w.heap.size w w' := by
  have H := Lib.hid h
  have HBD := Lib.hid hb
  have hmk := make_u32 w l.length hl
  have hz : (w.alloc (.cells (kv .u32 (List.replicate l.length 0)).toArray 66)).heap.size = w.heap.size + 1 := by simp
  have R1 := alloc_rowV w 66 (kv .u32 (List.replicate l.length 0))
  have B1 := (Below.refl w.heap.size w).alloc (Nat.le_refl _) (.cells (kv .u32 (List.replicate l.length 0)).toArray 66)
  rw [← upTo_zero] at hmk hz R1 B1
  generalize w.alloc (.cells (kv .u32 (upTo l 0)).toArray 66) = w1 at *
  have HR := Lib.hid R1
  have HB := Lib.hid B1
  obtain ⟨g, hg⟩ : ∃ g, g = w.heap.size := ⟨_, rfl⟩
  rw [← hg] at hmk HR ⊢
  have HG := Lib.hid hg
  have hl2 : (l.length : Int) ≤ 4096 := by omega
  clear h hb R1 B1 hz hg
  go_enter Tryz.func146, Tryz.ntmps146
  go_wp2_with fail
  clear hmk
  go_loopw [11] (fun i wr => ∃ k : Nat, k ≤ l.length ∧ i = .int .i64 (k : Int) ∧ Hid (RowV wr g 66 (kv .u32 (upTo l k))) ∧ Hid (Below w.heap.size w wr)) (fun i _ => l.length - (Go.RowKit.intOf i).toNat)
  case atStart => exact ⟨0, Nat.zero_le _, rfl, HR, HB⟩
  case round =>
    obtain ⟨k, hk, rfl, HRr, HBr⟩ := hrel
    by_cases hlt : k < l.length
    · have hki : (k : Int) < (l.length : Int) := by omega
      have hge0 : (0 : Int) ≤ (k : Int) := by omega
      obtain ⟨b1, o1, rfl, hb1, hc1⟩ := kv_told H.out hlt
      have c1' : wr.cell? ⟨b1, o1 + k, none⟩ = some (.int .i64 ((l.getD k 0 : Nat) : Int)) := (HBr.out.cell (p := ⟨b1, o1 + k, none⟩) hb1).trans hc1
      have hbd := HBD.out _ (mem_getD hlt)
      have HS := Lib.hid (HRr.out.set k (.int .u32 ((l.getD k 0 : Nat) : Int)))
      rw [kv_set, upTo_set l hlt] at HS
      have fz := HRr.out.free k
      have hc := HRr.out.cellAt (i := k) (kv_at .u32 (upTo l k) (by rw [length_upTo l (by omega)]; exact hlt))
      have HU := Lib.hid (ButL.set wr g k (.int .u32 ((l.getD k 0 : Nat) : Int)))
      clear hc1
      generalize l.getD k 0 = x at *
      have hx0 : (0 : Int) ≤ (x : Int) := by omega
      have hx1 : (x : Int) < 4294967296 := by omega
      have hw : IntKind.u32.wrap (x : Int) = (x : Int) := by simp [IntKind.wrap, IntKind.signed, IntKind.bits]; omega
      have hk63 : (k : Int) < 9223372036854775807 := by omega
      go_wp2_with fail
      exact ⟨⟨k + 1, by omega, by go_num, HS, Lib.hid (HBr.out.trans (HU.out.below (by simp; have := HG.out; omega) HBr.out.size))⟩, by simp [Go.RowKit.intOf]; omega⟩
    · have hki : ¬ (k : Int) < (l.length : Int) := by omega
      obtain rfl : k = l.length := by omega
      go_wp2_with fail
      go_ret
      refine ⟨g, rfl, ?_, by rw [HG.out]; exact Nat.le_refl _, by rw [HG.out]; exact HBr.out⟩
      have := HRr.out
      rwa [upTo_all] at this
set_option maxHeartbeats 1000000 in
theorem as_uint16_int {w : World} {A : Option Addr} {c : Nat} {l : List Nat} (h : ToldV w A (kv .i64 l)) (hl : l.length ≤ 4096) (hb : ∀ x ∈ l, x < 65536) :
    Calls Tryz.prog 165 #[.slice A l.length c] w fun e w' => ∃ g, e = .returned (.slice (some ⟨g, 0, none⟩) l.length l.length) ∧ RowV w' g 34 (kv .u16 l) ∧ w.heap.size ≤ g ∧ Below w.heap.size w w' := by
  have H := Lib.hid h
  have HBD := Lib.hid hb
  have hmk := make_u16 w l.length hl
  have hz : (w.alloc (.cells (kv .u16 (List.replicate l.length 0)).toArray 34)).heap.size = w.heap.size + 1 := by simp
  have R1 := alloc_rowV w 34 (kv .u16 (List.replicate l.length 0))
  have B1 := (Below.refl w.heap.size w).alloc (Nat.le_refl _) (.cells (kv .u16 (List.replicate l.length 0)).toArray 34)
  rw [← upTo_zero] at hmk hz R1 B1
  generalize w.alloc (.cells (kv .u16 (upTo l 0)).toArray 34) = w1 at *
  have HR := Lib.hid R1
  have HB := Lib.hid B1
  obtain ⟨g, hg⟩ : ∃ g, g = w.heap.size := ⟨_, rfl⟩
  rw [← hg] at hmk HR ⊢
  have HG := Lib.hid hg
  have hl2 : (l.length : Int) ≤ 4096 := by omega
  clear h hb R1 B1 hz hg
  go_enter Tryz.func165, Tryz.ntmps165
  go_wp2_with fail
  clear hmk
  go_loopw [11] (fun i wr => ∃ k : Nat, k ≤ l.length ∧ i = .int .i64 (k : Int) ∧ Hid (RowV wr g 34 (kv .u16 (upTo l k))) ∧ Hid (Below w.heap.size w wr)) (fun i _ => l.length - (Go.RowKit.intOf i).toNat)
  case atStart => exact ⟨0, Nat.zero_le _, rfl, HR, HB⟩
  case round =>
    obtain ⟨k, hk, rfl, HRr, HBr⟩ := hrel
    by_cases hlt : k < l.length
    · have hki : (k : Int) < (l.length : Int) := by omega
      have hge0 : (0 : Int) ≤ (k : Int) := by omega
      obtain ⟨b1, o1, rfl, hb1, hc1⟩ := kv_told H.out hlt
      have c1' : wr.cell? ⟨b1, o1 + k, none⟩ = some (.int .i64 ((l.getD k 0 : Nat) : Int)) := (HBr.out.cell (p := ⟨b1, o1 + k, none⟩) hb1).trans hc1
      have hbd := HBD.out _ (mem_getD hlt)
      have HS := Lib.hid (HRr.out.set k (.int .u16 ((l.getD k 0 : Nat) : Int)))
      rw [kv_set, upTo_set l hlt] at HS
      have fz := HRr.out.free k
      have hc := HRr.out.cellAt (i := k) (kv_at .u16 (upTo l k) (by rw [length_upTo l (by omega)]; exact hlt))
      have HU := Lib.hid (ButL.set wr g k (.int .u16 ((l.getD k 0 : Nat) : Int)))
      clear hc1
      generalize l.getD k 0 = x at *
      have hx0 : (0 : Int) ≤ (x : Int) := by omega
      have hx1 : (x : Int) < 65536 := by omega
      have hw : IntKind.u16.wrap (x : Int) = (x : Int) := by simp [IntKind.wrap, IntKind.signed, IntKind.bits]; omega
      have hk63 : (k : Int) < 9223372036854775807 := by omega
      go_wp2_with fail
      exact ⟨⟨k + 1, by omega, by go_num, HS, Lib.hid (HBr.out.trans (HU.out.below (by simp; have := HG.out; omega) HBr.out.size))⟩, by simp [Go.RowKit.intOf]; omega⟩
    · have hki : ¬ (k : Int) < (l.length : Int) := by omega
      obtain rfl : k = l.length := by omega
      go_wp2_with fail
      go_ret
      refine ⟨g, rfl, ?_, by rw [HG.out]; exact Nat.le_refl _, by rw [HG.out]; exact HBr.out⟩
      have := HRr.out
      rwa [upTo_all] at this
theorem part_int {w : World} {b o c n : Nat} (p : Nat) (hp : p * 61 < n) (hn : n ≤ c) (hc : c ≤ maxLen) (hn2 : n ≤ 4096) :
    Calls Tryz.prog 166 #[.slice (some ⟨b, o, none⟩) n c, .int .i64 (p : Int)] w fun e w' => e = .returned (.slice (some ⟨b, o + p * 61, none⟩) (min 61 (n - p * 61)) (c - p * 61)) ∧ w = w' := by
  have hp0 : (0 : Int) ≤ (p : Int) := by omega
  have hpi : (p : Int) * 61 < (n : Int) := by omega
  have hni : (n : Int) ≤ 4096 := by omega
  obtain ⟨m, hm⟩ : ∃ m, m = min 61 (n - p * 61) := ⟨_, rfl⟩
  have hmin : min ((p : Int) * 61 + 61) (n : Int) = ((p * 61 + m : Nat) : Int) := by omega
  have k1 : ¬ (c = p * 61) := by omega
  have k2 : ¬ (p * 61 = c) := by omega
  rw [← hm]
  go_enter Tryz.func166, Tryz.ntmps166
  go_wp2_with fail
  go_ret
  exact ⟨by simp [hm], rfl⟩
theorem part_uint16 {w : World} {b o c n : Nat} (p : Nat) (hp : p * 61 < n) (hn : n ≤ c) (hc : c ≤ maxLen) (hn2 : n ≤ 4096) :
    Calls Tryz.prog 190 #[.slice (some ⟨b, o, none⟩) n c, .int .i64 (p : Int)] w fun e w' => e = .returned (.slice (some ⟨b, o + p * 61, none⟩) (min 61 (n - p * 61)) (c - p * 61)) ∧ w = w' := by
  have hp0 : (0 : Int) ≤ (p : Int) := by omega
  have hpi : (p : Int) * 61 < (n : Int) := by omega
  have hni : (n : Int) ≤ 4096 := by omega
  obtain ⟨m, hm⟩ : ∃ m, m = min 61 (n - p * 61) := ⟨_, rfl⟩
  have hmin : min ((p : Int) * 61 + 61) (n : Int) = ((p * 61 + m : Nat) : Int) := by omega
  have k1 : ¬ (c = p * 61) := by omega
  have k2 : ¬ (p * 61 = c) := by omega
  rw [← hm]
  go_enter Tryz.func190, Tryz.ntmps190
  go_wp2_with fail
  go_ret
  exact ⟨by simp [hm], rfl⟩
end Go.Proofs.YtogchamogbendaaGreat.Bs
