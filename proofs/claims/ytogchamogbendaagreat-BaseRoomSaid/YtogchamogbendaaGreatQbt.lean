/- Several texts in one: BsY BsU BsV BsZ. (Written by bin/prune.py.) -/
import Derived.Test.YtogchamogbendaaGreatQbj
import Derived.Test.YtogchamogbendaaGreatQbs
import Derived.Test.YtogchamogbendaaGreatQbv
/- Mathematics: what stays true of a base whatever is done to it, and what a Commit makes of it. -/
namespace Go.Proofs.YtogchamogbendaaGreat.Bs
set_option maxRecDepth 100000
open Go.RowKit Go.Proofs.YtogchamogbendaaGreat.Oct Go.Proofs.YtogchamogbendaaGreat.Mv Go.Proofs.YtogchamogbendaaGreat.Tl Go.Proofs.YtogchamogbendaaGreat.Pk Go.Proofs.YtogchamogbendaaGreat.Pl Go.Maps Go.ChangeMaps
open Go.Proofs.YtogchamogbendaaGreat.Dsk (dT)
open Go.Proofs.YtogchamogbendaaGreat.Su (Sup nth scells scell psup perr pslot zero18)
open Go.Proofs.YtogchamogbendaaGreat.Ix (idxPage idxBody wvals Wd OwnW DecYes)
set_option linter.unusedVariables false
set_option linter.unusedSimpArgs false

/-! ### Supers -/
theorem lead_nth {s : Sup} (hs : s.length = 18) {l : List Nat} (hl : l.length ≤ 2) (j : Nat) : nth (leadS s l) j = if 2 ≤ j ∧ j < 2 + l.length then l.getD (j - 2) 0 else nth s j := by
  rcases Nat.lt_or_ge j 2 with h | h
  · rw [leadS_low hs j h, if_neg (by omega)]
  · rcases Nat.lt_or_ge j (2 + l.length) with h1 | h1
    · obtain ⟨i, rfl⟩ : ∃ i, j = 2 + i := ⟨j - 2, by omega⟩
      rw [leadS_mid hs i (by omega), if_pos ⟨h, h1⟩, Nat.add_sub_cancel_left, List.getD_eq_getElem?_getD, List.getElem?_eq_getElem (by omega)]
      rfl
    · rw [leadS_high hs hl j h1, if_neg (by omega)]
theorem set_nth {s : Sup} (hs : s.length = 18) (i v j : Nat) (hi : i < 18) : nth (s.set i v) j = if j = i then v else nth s j := by
  unfold nth
  rw [Pl.getD_set]
  by_cases e : j = i
  · rw [if_pos ⟨e, by omega⟩, if_pos e]
  · rw [if_neg (fun k => e k.1), if_neg e]
theorem getD_mem {l : List Nat} {i : Nat} (h : i < l.length) : l.getD i 0 ∈ l := by
  rw [List.getD_eq_getElem?_getD, List.getElem?_eq_getElem h]
  exact List.getElem_mem _
theorem lead_ok {s : Sup} (h : Su.Ok s) {l : List Nat} (hl : l.length ≤ 2) (hb : ∀ x ∈ l, x < 4294967296) : Su.Ok (leadS s l) := by
  refine ⟨length_leadS h.len hl, fun j => ?_, fun j h1 h2 => ?_⟩ <;> rw [lead_nth h.len hl]
  · split
    · rename_i k
      have := hb _ (getD_mem (l := l) (i := j - 2) (by omega))
      omega
    · exact h.lt j
  · split
    · rename_i k
      exact hb _ (getD_mem (l := l) (i := j - 2) (by omega))
    · exact h.small j h1 h2
theorem lead_fit {s : Sup} (hs : s.length = 18) (h : Su.Fit s) {l : List Nat} (hl : l.length ≤ 2) (hb : ∀ x ∈ l, x < nth s 1) : Su.Fit (leadS s l) := by
  obtain ⟨h0, h1, h2, h3⟩ := h
  refine ⟨by rw [lead_nth hs hl, if_neg (by omega)]; exact h0, by rw [lead_nth hs hl, if_neg (by omega)]; exact h1, by rw [lead_nth hs hl, if_neg (by omega)]; exact h2, fun i hi => ?_⟩
  rw [lead_nth hs hl (2 + i), lead_nth hs hl 1, if_neg (show ¬ (2 ≤ 1 ∧ 1 < 2 + l.length) by omega)]
  split
  · exact hb _ (getD_mem (by omega))
  · exact h3 i hi
theorem set_ok {s : Sup} (h : Su.Ok s) (i v : Nat) (hi : i < 18) (hv : v < 18446744073709551616) (hv2 : 1 ≤ i → i < 10 → v < 4294967296) : Su.Ok (s.set i v) := by
  refine ⟨by rw [List.length_set]; exact h.len, fun j => ?_, fun j h1 h2 => ?_⟩ <;> rw [set_nth h.len i v j hi]
  · split
    · exact hv
    · exact h.lt j
  · split
    · rename_i e
      exact hv2 (by omega) (by omega)
    · exact h.small j h1 h2

/-! ### What stays true -/
structure Good (x : BS) : Prop where
  sd : Sound x.q x.l1 x.l2
  lo : 16 ≤ x.n
  hi : x.n ≤ 4096
  room : need x.n ≤ x.q.room
  dn : x.D.n = x.n
  calm : Calm x.D
  lok : Lok x.D
  still : x.D.W = []
  nok : Su.Ok x.now
  nfit : Su.Fit x.now
  kok : Su.Ok x.kept
  kfit : Su.Fit x.kept
  n1 : nth x.now 1 = x.n
  gen : nth x.now 0 = nth x.kept 0
  root : ∀ j, j < 2 → nth x.now (2 + j) = x.l2.getD j 0
  fr : ∀ i bs, x.fr i = some bs → 2 ≤ i ∧ i < x.n ∧ x.q.s.was i = 0 ∧ x.q.s.cnt i ≠ 0 ∧ bs.length = 128
  opens : Opens x.D x.kept x.l1 x.l2 x.q.s.kept
  slot : x.D.says (nth x.kept 0 % 2) = Su.supPage x.kept
section
variable {x : BS} {y : Wk}
theorem Good.len2 (h : Good x) : x.l2.length ≤ 2 := by
  have := h.hi
  rw [h.sd.len2]
  unfold BS.n at this
  unfold pg
  omega
theorem Good.ge (h : Good x) {i : Nat} (hi : i < (x.l1 ++ x.l2).length) : 2 ≤ (x.l1 ++ x.l2).getD i 0 := by
  rcases Nat.lt_or_ge i x.l1.length with k | k
  · rw [getD_app1 _ _ _ k]
    exact (h.opens.pages.cnt i k).1
  · obtain ⟨j, rfl⟩ : ∃ j, i = x.l1.length + j := ⟨i - x.l1.length, by omega⟩
    rw [getD_app2]
    rw [List.length_append] at hi
    exact (h.opens.pages.dir j (by omega)).1
theorem Good.nw (h : Good x) : x.q.s.kept.length = x.n := by rw [h.opens.pages.n, h.dn]
/-- A new super. -/
def nextS (x : BS) (y : Wk) : Sup := leadS (x.now.set 0 (nth x.now 0 + 1)) y.l2
def comS (x : BS) (y : Wk) : List Stp := comSteps x.fr y.q.s y.l1 y.l2 (doneL y.f1) (doneL y.f2) (nextS x y)
/-- A base behind a Commit. -/
def BS.com (x : BS) (y : Wk) : BS := ⟨Q.keep y.q, y.l1, y.l2, nextS x y, nextS x y, fun _ => none, doSteps x.D (comS x y)⟩
/-- What a Commit begins with: a run that places pages. -/
structure Com (x : BS) (y : Wk) : Prop where
  g : Good x
  runs : (Pl.begin x.q x.l1 x.l2).Runs y
  gen : nth x.now 0 + 1 < 18446744073709551616
theorem Com.anew (h : Com x y) : Anew x.q x.l1 x.l2 y := h.g.sd.anew h.g.room h.runs
theorem Com.new (h : Com x y) : New0 x.q (x.l1 ++ x.l2) y := h.anew.new0 h.g.sd h.g.room
theorem Com.sd (h : Com x y) : Sound (Q.keep y.q) y.l1 y.l2 := h.anew.sound h.g.sd.first
theorem Com.yn (h : Com x y) : y.q.s.n = x.n := h.anew.n
theorem Com.len1 (h : Com x y) : y.l1.length = x.l1.length := h.anew.len1
theorem Com.len2 (h : Com x y) : y.l2.length = x.l2.length := h.anew.len2
theorem Com.len22 (h : Com x y) : y.l2.length ≤ 2 := by rw [h.len2]; exact h.g.len2
theorem Com.one (h : Com x y) {i : Nat} (hi : i < (y.l1 ++ y.l2).length) : (y.l1 ++ y.l2).getD i 0 < x.n ∧ y.q.s.cnt ((y.l1 ++ y.l2).getD i 0) = 1 := by
  obtain ⟨_, h2, h3, _⟩ := h.sd.one i hi
  exact ⟨by rw [← h.yn]; exact h2, h3⟩
/-- Where a page stands behind a run: where it stood, or where nothing stood. -/
theorem Com.at' (h : Com x y) {i : Nat} (hi : i < (y.l1 ++ y.l2).length) : (i < (x.l1 ++ x.l2).length ∧ (y.l1 ++ y.l2).getD i 0 = (x.l1 ++ x.l2).getD i 0 ∧ (y.f1 ++ y.f2).getD i false = false) ∨ ((y.f1 ++ y.f2).getD i false = true ∧ x.q.s.cnt ((y.l1 ++ y.l2).getD i 0) = 0 ∧ x.q.s.was ((y.l1 ++ y.l2).getD i 0) = 0 ∧ 2 ≤ (y.l1 ++ y.l2).getD i 0) := by
  rcases hF : (y.f1 ++ y.f2).getD i false with _ | _
  · exact .inl ⟨by rw [List.length_append, ← h.len1, ← h.len2, ← List.length_append]; exact hi, (h.anew.ri.un i hi hF).1, rfl⟩
  · obtain ⟨k1, k2, k3⟩ := h.new.new i hi hF
    rw [h.g.sd.first] at k3
    exact .inr ⟨rfl, k1, k2, k3⟩
theorem Com.ge (h : Com x y) {i : Nat} (hi : i < (y.l1 ++ y.l2).length) : 2 ≤ (y.l1 ++ y.l2).getD i 0 := by
  rcases h.at' hi with ⟨k1, k2, _⟩ | ⟨_, _, _, k⟩
  · rw [k2]; exact h.g.ge k1
  · exact k
theorem Com.lt2 (h : Com x y) : ∀ b ∈ y.l2, b < x.n := fun b hb => by
  obtain ⟨i, hi, rfl⟩ := List.mem_iff_getElem.1 hb
  have := (h.one (i := y.l1.length + i) (by rw [List.length_append]; omega)).1
  rw [getD_app2, List.getD_eq_getElem?_getD, List.getElem?_eq_getElem hi] at this
  exact this
theorem Com.sok (h : Com x y) : Su.Ok (nextS x y) :=
  lead_ok (set_ok h.g.nok 0 _ (by omega) h.gen (fun k => by omega)) h.len22 fun b hb => by have := h.lt2 b hb; have := h.g.hi; omega
theorem Com.set1 (h : Com x y) : nth (x.now.set 0 (nth x.now 0 + 1)) 1 = x.n := by rw [set_nth h.g.nok.len _ _ _ (by omega), if_neg (by omega)]; exact h.g.n1
theorem Com.sfit (h : Com x y) : Su.Fit (nextS x y) := by
  refine lead_fit (by rw [List.length_set]; exact h.g.nok.len) ?_ h.len22 (fun b hb => by rw [h.set1]; exact h.lt2 b hb)
  obtain ⟨h0, h1, h2, h3⟩ := h.g.nfit
  refine ⟨by rw [set_nth h.g.nok.len _ _ _ (by omega), if_pos rfl]; omega, by rw [h.set1]; exact h.g.lo, by rw [h.set1]; exact h.g.hi, fun i hi => ?_⟩
  rw [h.set1, set_nth h.g.nok.len _ _ _ (by omega), if_neg (by omega)]
  have := h3 i hi
  rwa [h.g.n1] at this
theorem Com.nth (h : Com x y) (j : Nat) : nth (nextS x y) j = if j = 0 then nth x.now 0 + 1 else if 2 ≤ j ∧ j < 2 + y.l2.length then y.l2.getD (j - 2) 0 else nth x.now j := by
  unfold nextS
  rw [lead_nth (by rw [List.length_set]; exact h.g.nok.len) h.len22, set_nth h.g.nok.len _ _ _ (by omega)]
  by_cases e : j = 0
  · subst e
    rw [if_neg (by omega), if_pos rfl, if_pos rfl]
  · rw [if_neg e, if_neg e]
theorem Com.next0 (h : Com x y) : Su.nth (nextS x y) 0 = Su.nth x.now 0 + 1 := by rw [h.nth, if_pos rfl]
theorem Com.next1 (h : Com x y) : Su.nth (nextS x y) 1 = x.n := by rw [h.nth, if_neg (by omega), if_neg (by omega)]; exact h.g.n1
/-- The steps of a Commit are all within the disk. -/
theorem Com.steps (h : Com x y) : ∀ t ∈ comS x y, Stp.fit x.D.n t := fun t ht => by
  rw [h.g.dn]
  have hlo := h.g.lo
  unfold comS comSteps at ht
  rcases List.mem_append.1 ht with ht | ht
  · rcases List.mem_append.1 ht with ht | ht
    · unfold putSteps at ht
      obtain ⟨i, hi, rfl⟩ := List.mem_map.1 ht
      obtain ⟨bs, hbs⟩ := Option.isSome_iff_exists.1 (mem_frL.1 hi).2
      obtain ⟨_, k2, _, _, k5⟩ := h.g.fr i bs hbs
      exact ⟨k2, by rw [hbs]; exact k5⟩
    · rcases List.mem_append.1 ht with ht | ht
      · unfold cntSteps at ht
        obtain ⟨i, hi, rfl⟩ := List.mem_map.1 ht
        have k := h.anew.in1 hi
        refine ⟨?_, Ix.length_idxPage _ _ (part_le _ _)⟩
        have := (h.one (i := i) (by rw [List.length_append]; omega)).1
        rwa [getD_app1 _ _ _ k] at this
      · unfold dirSteps at ht
        obtain ⟨i, hi, rfl⟩ := List.mem_map.1 ht
        have k := h.anew.in2 hi
        refine ⟨?_, Ix.length_idxPage _ _ (by rw [length_dirW]; omega)⟩
        have := (h.one (i := y.l1.length + i) (by rw [List.length_append]; omega)).1
        rwa [getD_app2] at this
  · unfold finSteps at ht
    simp only [List.mem_cons, List.not_mem_nil, or_false] at ht
    rcases ht with rfl | rfl | rfl
    · trivial
    · exact ⟨by omega, Su.length_supPage _⟩
    · trivial
theorem Com.inj1 (h : Com x y) : ∀ i ∈ doneL y.f1, ∀ j ∈ doneL y.f1, y.l1.getD i 0 = y.l1.getD j 0 → i = j := fun i hi j hj e => by
  by_cases k : i = j
  · exact k
  · have k1 := h.anew.in1 hi
    have k2 := h.anew.in1 hj
    have := h.sd.ne i j (by rw [List.length_append]; omega) (by rw [List.length_append]; omega) k
    rw [getD_app1 _ _ _ k1, getD_app1 _ _ _ k2] at this
    exact absurd e this
theorem Com.inj2 (h : Com x y) : ∀ i ∈ doneL y.f2, ∀ j ∈ doneL y.f2, y.l2.getD i 0 = y.l2.getD j 0 → i = j := fun i hi j hj e => by
  by_cases k : i = j
  · exact k
  · have k1 := h.anew.in2 hi
    have k2 := h.anew.in2 hj
    have := h.sd.ne (y.l1.length + i) (y.l1.length + j) (by rw [List.length_append]; omega) (by rw [List.length_append]; omega) (by omega)
    rw [getD_app2, getD_app2] at this
    exact absurd e this
theorem find_id {l : List Nat} {p : Nat} : (l.find? fun j => j == p) = if p ∈ l then some p else none := by
  induction l with
  | nil => rfl
  | cons a l ih =>
    rw [List.find?_cons]
    by_cases e : a = p
    · subst e
      simp
    · have : (a == p) = false := by simpa using e
      rw [this]
      show l.find? _ = _
      rw [ih]
      have hiff : p ∈ a :: l ↔ p ∈ l := by simp [Ne.symm e]
      by_cases k : p ∈ l
      · rw [if_pos k, if_pos (hiff.2 k)]
      · rw [if_neg k, if_neg (fun q => k (hiff.1 q))]
/-- What is written last at a block. -/
theorem Com.last (h : Com x y) (p : Nat) : lastW (comS x y) p = (if (Su.nth x.now 0 + 1) % 2 = p then some (Su.supPage (nextS x y)) else none).or ((((doneL y.f2).find? fun j => y.l2.getD j 0 == p).map fun i => idxPage 4 (dirW y.l1 i)).or ((((doneL y.f1).find? fun j => y.l1.getD j 0 == p).map fun i => idxPage 5 (Pl.part y.q.s i)).or (if p ∈ frL x.fr then some ((x.fr p).getD []) else none))) := by
  unfold comS comSteps
  rw [lastW_app, lastW_app, lastW_app]
  unfold cntSteps dirSteps putSteps
  rw [lastW_map (fun i => y.l1.getD i 0) (fun i => idxPage 5 (Pl.part y.q.s i)) _ h.inj1, lastW_map (fun i => y.l2.getD i 0) (fun i => idxPage 4 (dirW y.l1 i)) _ h.inj2, lastW_map (fun i => i) (fun i => (x.fr i).getD []) _ (fun _ _ _ _ e => e)]
  have a1 : lastW (finSteps (nextS x y)) p = if (Su.nth x.now 0 + 1) % 2 = p then some (Su.supPage (nextS x y)) else none := by
    unfold finSteps lastW
    rw [h.next0]
    simp only [List.foldl_cons, List.foldl_nil, lastStep]
  rw [a1, find_id]
  simp only [Option.or_assoc]
  congr 3
  by_cases k : p ∈ frL x.fr
  · rw [if_pos k, if_pos k]; rfl
  · rw [if_neg k, if_neg k]; rfl
theorem Com.says (h : Com x y) (p : Nat) (hp : p < x.n) : (x.com y).D.says p = (lastW (comS x y) p).getD (x.D.says p) :=
  (says_steps (comS x y) x.D h.g.calm h.g.lok h.steps).2 p (by rw [h.g.dn]; exact hp)
theorem Com.no1 (h : Com x y) {p : Nat} (hp : x.q.s.cnt p ≠ 0 ∨ x.q.s.was p ≠ 0 ∨ p < 2) : ∀ i ∈ doneL y.f1, y.l1.getD i 0 ≠ p := fun i hi e => by
  have k := h.anew.in1 hi
  have hil : i < (y.l1 ++ y.l2).length := by rw [List.length_append]; omega
  obtain ⟨k1, k2, k3⟩ := h.new.new i hil (by rw [getD_app1 _ _ _ (by rw [h.anew.good.fl1]; exact k)]; exact mem_done.1 hi)
  rw [getD_app1 _ _ _ k, e] at k1 k2 k3
  rw [h.g.sd.first] at k3
  rcases hp with hp | hp | hp
  · exact hp k1
  · exact hp k2
  · omega
theorem Com.no2 (h : Com x y) {p : Nat} (hp : x.q.s.cnt p ≠ 0 ∨ x.q.s.was p ≠ 0 ∨ p < 2) : ∀ i ∈ doneL y.f2, y.l2.getD i 0 ≠ p := fun i hi e => by
  have k := h.anew.in2 hi
  have hil : y.l1.length + i < (y.l1 ++ y.l2).length := by rw [List.length_append]; omega
  obtain ⟨k1, k2, k3⟩ := h.new.new (y.l1.length + i) hil (by rw [← h.anew.good.fl1, getD_app2]; exact mem_done.1 hi)
  rw [getD_app2, e] at k1 k2 k3
  rw [h.g.sd.first] at k3
  rcases hp with hp | hp | hp
  · exact hp k1
  · exact hp k2
  · omega
theorem Good.frno (h : Good x) {p : Nat} (hp : x.q.s.was p ≠ 0 ∨ p < 2) : p ∉ frL x.fr := fun hm => by
  obtain ⟨bs, hbs⟩ := Option.isSome_iff_exists.1 (mem_frL.1 hm).2
  obtain ⟨k1, _, k3, _⟩ := h.fr p bs hbs
  rcases hp with hp | hp
  · exact hp k3
  · omega
/-- A block that has a kept count is not written by a Commit. -/
theorem Com.stays (h : Com x y) {p : Nat} (hp : p < x.n) (h2 : 2 ≤ p) (hw : x.q.s.was p ≠ 0) : (x.com y).D.says p = x.D.says p := by
  rw [h.says p hp, h.last, if_neg (by omega), find_not (h.no1 (.inr (.inl hw))), find_not (h.no2 (.inr (.inl hw))), if_neg (h.g.frno (.inl hw))]
  rfl
/-- The super that counted stays. -/
theorem Com.other (h : Com x y) : (x.com y).D.says (Su.nth x.kept 0 % 2) = Su.supPage x.kept := by
  have := h.g.lo
  have hg := h.g.gen
  rw [h.says _ (by omega), h.last, if_neg (by omega), find_not (h.no1 (.inr (.inr (by omega)))), find_not (h.no2 (.inr (.inr (by omega)))), if_neg (h.g.frno (.inr (by omega)))]
  exact h.g.slot
theorem Com.slot (h : Com x y) : (x.com y).D.says (Su.nth (nextS x y) 0 % 2) = Su.supPage (nextS x y) := by
  have := h.g.lo
  rw [h.next0, h.says _ (by omega), h.last, if_pos rfl]
  rfl
/-- What a block of data has is what it had. -/
theorem Com.has (h : Com x y) {p : Nat} (hp : p < x.n) (h2 : 2 ≤ p) (hc : x.q.s.cnt p ≠ 0) : (x.com y).has p = x.has p := by
  show (none : Option (List UInt8)).getD ((x.com y).D.says p) = _
  rw [show (none : Option (List UInt8)).getD ((x.com y).D.says p) = (x.com y).D.says p from rfl, h.says p hp, h.last, if_neg (by omega), find_not (h.no1 (.inl hc)), find_not (h.no2 (.inl hc))]
  have h4 := h.g.hi
  unfold BS.has
  by_cases k : p ∈ frL x.fr
  · rw [if_pos k]
    obtain ⟨bs, hbs⟩ := Option.isSome_iff_exists.1 (mem_frL.1 k).2
    rw [hbs]
    rfl
  · rw [if_neg k]
    have : x.fr p = none := by
      cases e : x.fr p with
      | none => rfl
      | some bs => exact absurd (mem_frL.2 ⟨by omega, by rw [e]; rfl⟩) k
    rw [this]
    rfl
theorem Com.cnt (h : Com x y) {p : Nat} (h1 : p ∉ x.l1 ++ x.l2) (h2 : p ∉ y.l1 ++ y.l2) : y.q.s.cnt p = x.q.s.cnt p :=
  h.new.oth p (fun i hi e => h1 (e ▸ getD_mem hi)) (fun i hi e => h2 (e ▸ getD_mem hi))
/-- A block of data is no page, neither ahead of a Commit nor behind it. -/
theorem Com.page (h : Com x y) {p : Nat} (h1 : p ∉ x.l1 ++ x.l2) (hc : x.q.s.cnt p ≠ 0) : p ∉ y.l1 ++ y.l2 := fun hm => by
  obtain ⟨i, hi, e⟩ := List.mem_iff_getElem.1 hm
  have e' : (y.l1 ++ y.l2).getD i 0 = p := by rw [List.getD_eq_getElem?_getD, List.getElem?_eq_getElem hi]; exact e
  rcases h.at' hi with ⟨k1, k2, _⟩ | ⟨_, k, _⟩
  · rw [e'] at k2
    exact h1 (k2 ▸ getD_mem k1)
  · rw [e'] at k
    exact hc k
theorem Com.room (h : Com x y) : (Q.keep y.q).room = zeroQ x.q := by
  rw [room_keep]
  refine h.runs.zero (begin_good h.g.sd.ok h.g.sd.right h.g.room) h.g.sd.base h.g.sd.ri fun i hi => ⟨(h.g.sd.one i hi).1, ?_⟩
  rw [h.g.sd.first]
  exact h.g.ge hi
theorem part_eq {s : Tl.St} {W : List UInt16} {i : Nat} (hl : W.length = s.n) (h : ∀ j, i * 61 ≤ j → j < i * 61 + 61 → s.cnt j = W.getD j 0) : Pl.part s i = ptW W i := by
  unfold ptW Pl.part Pl.many
  apply List.ext_getElem
  · simp [hl]
  · intro j h1 h2
    simp only [List.getElem_take, List.getElem_drop, List.getElem_map, List.getElem_range]
    have k : j < min 61 (s.n - i * 61) := by simpa using h1
    rw [h (i * 61 + j) (by omega) (by omega), List.getD_eq_getElem?_getD, List.getElem?_eq_getElem (by rw [hl]; omega)]
    rfl
theorem dirW_eq {l m : List Nat} {i : Nat} (hl : l.length = m.length) (h : ∀ j, i * 61 ≤ j → j < i * 61 + 61 → l.getD j 0 = m.getD j 0) : dirW l i = dirW m i := by
  unfold dirW
  congr 1
  apply List.ext_getElem
  · simp [hl]
  · intro j h1 h2
    simp only [List.getElem_take, List.getElem_drop]
    have k : j < 61 ∧ i * 61 + j < l.length := by simp at h1; omega
    have := h (i * 61 + j) (by omega) (by omega)
    rw [List.getD_eq_getElem?_getD, List.getElem?_eq_getElem k.2, List.getD_eq_getElem?_getD, List.getElem?_eq_getElem (by omega)] at this
    exact this
/-- What stands on the disk behind a Commit may be opened. -/
theorem Com.opens (h : Com x y) : Opens (x.com y).D (nextS x y) y.l1 y.l2 y.q.s.now := by
  have hlo := h.g.lo
  have hhi := h.g.hi
  have hDn : (x.com y).D.n = x.n := ((doSteps_all (comS x y) x.D h.g.calm).1).trans h.g.dn
  have hyn := h.yn
  have sa : ∀ i, i < y.l1.length → (x.com y).D.says (y.l1.getD i 0) = idxPage 5 (Pl.part y.q.s i) := fun i hi => by
    have hil : i < (y.l1 ++ y.l2).length := by rw [List.length_append]; omega
    have k := h.ge hil
    have kn := (h.one hil).1
    rw [getD_app1 _ _ _ hi] at k kn
    by_cases hd : i ∈ doneL y.f1
    · rw [h.says _ kn, h.last, if_neg (by omega)]
      rw [find_not (fun j hj e => by
        have k2 := h.anew.in2 hj
        have := h.sd.ne i (y.l1.length + j) hil (by rw [List.length_append]; omega) (by omega)
        rw [getD_app1 _ _ _ hi, getD_app2] at this
        exact this e.symm), find_at h.inj1 hd]
      rfl
    · have he := h.anew.stay1 (by rw [← h.len1]; exact hi) hd
      have hix : i < x.l1.length := by rw [← h.len1]; exact hi
      have ho := h.g.sd.one i (by rw [List.length_append]; omega)
      rw [getD_app1 _ _ _ hix] at ho
      rw [he] at kn k ⊢
      rw [h.stays kn k (by rw [ho.2.2.2]; decide), (h.g.opens.pages.cnt i hix).2.2]
      congr 1
      refine (part_eq (by rw [h.g.nw, hyn]) fun j j1 j2 => ?_).symm
      rcases Nat.lt_or_ge j y.q.s.n with hj | hj
      · rcases hm : y.q.s.moved j with _ | _
        · have e : y.q.s.cnt j = y.q.s.was j := by unfold Tl.St.moved at hm; simpa using hm
          rw [e, h.anew.ri.was j]
          rfl
        · have := h.anew.tell1 (mem_changed.2 ⟨hj, hm⟩)
          rw [show j / 61 = i by omega] at this
          exact absurd this hd
      · unfold Tl.St.cnt
        rw [List.getD_eq_getElem?_getD, List.getElem?_eq_none hj, List.getD_eq_getElem?_getD, List.getElem?_eq_none (by rw [h.g.nw]; omega)]
  have sb : ∀ i, i < y.l2.length → (x.com y).D.says (y.l2.getD i 0) = idxPage 4 (dirW y.l1 i) := fun i hi => by
    have hil : y.l1.length + i < (y.l1 ++ y.l2).length := by rw [List.length_append]; omega
    have k := h.ge hil
    have kn := (h.one hil).1
    rw [getD_app2] at k kn
    by_cases hd : i ∈ doneL y.f2
    · rw [h.says _ kn, h.last, if_neg (by omega), find_at h.inj2 hd]
      rfl
    · have he := h.anew.stay2 (by rw [← h.len2]; exact hi) hd
      have hix : i < x.l2.length := by rw [← h.len2]; exact hi
      have ho := h.g.sd.one (x.l1.length + i) (by rw [List.length_append]; omega)
      rw [getD_app2] at ho
      rw [he] at kn k ⊢
      rw [h.stays kn k (by rw [ho.2.2.2]; decide), (h.g.opens.pages.dir i hix).2.2, dir_now]
      congr 1
      refine (dirW_eq h.len1 fun j j1 j2 => ?_).symm
      rcases Nat.lt_or_ge j y.l1.length with hj | hj
      · refine h.anew.stay1 (by rw [← h.len1]; exact hj) fun hm => ?_
        have := h.anew.tell2 hm
        rw [show j / 61 = i by omega] at this
        exact hd this
      · rw [List.getD_eq_getElem?_getD, List.getElem?_eq_none hj, List.getD_eq_getElem?_getD, List.getElem?_eq_none (by rw [← h.len1]; exact hj)]
  refine ⟨?_, by rw [h.next1, hDn], ⟨by rw [hDn]; exact hyn, by rw [hDn]; exact hhi, by rw [hDn]; exact hlo, by rw [hDn, ← hyn]; exact h.anew.good.len1, by rw [hDn, ← hyn]; exact h.anew.good.len2, ?_, ?_, ?_⟩, ?_⟩
  · have s1 := h.slot
    have s2 := h.other
    rw [h.next0, h.g.gen] at s1
    have hlt : Su.nth x.kept 0 < Su.nth (nextS x y) 0 := by rw [h.next0, h.g.gen]; omega
    rcases Nat.mod_two_eq_zero_or_one (Su.nth x.kept 0) with e | e
    · rw [e] at s2
      rw [show (Su.nth x.kept 0 + 1) % 2 = 1 by omega] at s1
      rw [s1, s2]
      have := Su.pick_both h.g.kok h.sok h.g.kfit h.sfit e (by rw [h.next0, h.g.gen]; omega) hlt
      exact ⟨this.1, this.2.2⟩
    · rw [e] at s2
      rw [show (Su.nth x.kept 0 + 1) % 2 = 0 by omega] at s1
      rw [s1, s2]
      have := Su.pick_both' h.sok h.g.kok h.sfit h.g.kfit (by rw [h.next0, h.g.gen]; omega) e hlt
      exact ⟨this.1, this.2.2⟩
  · intro j hj
    rw [h.nth, if_neg (by omega)]
    by_cases hj2 : j < y.l2.length
    · rw [if_pos (by omega), Nat.add_sub_cancel_left]
    · rw [if_neg (by omega), h.g.root j hj, List.getD_eq_getElem?_getD, List.getElem?_eq_none (by rw [← h.len2]; omega), List.getD_eq_getElem?_getD, List.getElem?_eq_none (by omega)]
  · intro i hi
    have hil : y.l1.length + i < (y.l1 ++ y.l2).length := by rw [List.length_append]; omega
    have k := h.ge hil
    have kn := (h.one hil).1
    rw [getD_app2] at k kn
    exact ⟨k, by rw [hDn]; exact kn, by rw [sb i hi, dir_now]⟩
  · intro i hi
    have hil : i < (y.l1 ++ y.l2).length := by rw [List.length_append]; omega
    have k := h.ge hil
    have kn := (h.one hil).1
    rw [getD_app1 _ _ _ hi] at k kn
    exact ⟨k, by rw [hDn]; exact kn, by rw [sa i hi, part_now]⟩
  · exact h.sd.right
theorem steps_still (D : Dsk.St) (l : List Stp) : (doSteps D (l ++ [.f])).W = [] := by rw [doSteps_snoc]; exact w_flushed _
theorem Com.good (h : Com x y) : Good (x.com y) := by
  have hal := doSteps_all (comS x y) x.D h.g.calm
  have hDn : (x.com y).D.n = x.n := hal.1.trans h.g.dn
  have hn : (x.com y).n = x.n := h.yn
  refine ⟨h.sd, by rw [hn]; exact h.g.lo, by rw [hn]; exact h.g.hi, ?_, by rw [hDn, hn], hal.2.1, (says_steps (comS x y) x.D h.g.calm h.g.lok h.steps).1, ?_, h.sok, h.sfit, h.sok, h.sfit, by rw [hn]; exact h.next1, rfl, h.opens.pages.root, fun i bs e => (by cases e), h.opens, h.slot⟩
  · rw [hn]
    show need x.n ≤ (Q.keep y.q).room
    rw [h.room]
    exact Nat.le_trans h.g.room (room_le_zero _)
  · show (doSteps x.D (comS x y)).W = []
    have : comS x y = (putSteps x.fr (frL x.fr) ++ (cntSteps y.q.s y.l1 (doneL y.f1) ++ dirSteps y.l1 y.l2 (doneL y.f2)) ++ [.f, .w (Su.nth (nextS x y) 0 % 2) (Su.supPage (nextS x y))]) ++ [.f] := by
      unfold comS comSteps finSteps
      simp only [List.append_assoc, List.cons_append, List.nil_append]
    rw [this]
    exact steps_still _ _
end
end Go.Proofs.YtogchamogbendaaGreat.Bs
/- Has anything changed; pages of a base are placed. (Written by bin/gen_bsu.py.) -/
namespace Go.Proofs.YtogchamogbendaaGreat.Bs
set_option maxRecDepth 100000
open Go.RowKit Go.Proofs.YtogchamogbendaaGreat.Oct Go.Proofs.YtogchamogbendaaGreat.Mv Go.Proofs.YtogchamogbendaaGreat.Tl Go.Proofs.YtogchamogbendaaGreat.Pk Go.Proofs.YtogchamogbendaaGreat.Pl Go.Maps Go.ChangeMaps
open Go.Proofs.YtogchamogbendaaGreat.Dsk (dT)
open Go.Proofs.YtogchamogbendaaGreat.Su (Sup nth scells scell)
set_option linter.unusedVariables false
set_option linter.unusedSimpArgs false
set_option pp.deepTerms true


set_option maxHeartbeats 1000000 in
theorem changed_a {Pr : Nat → Prop} {w : World} {A : Adr} {x : BS} (h : BAt Pr w A x) (h1 : Su.Ok x.now) (h2 : Su.Ok x.kept) (he : x.now ≠ x.kept) :
    Calls Tryz.prog 84 #[.pointer (some ⟨A.b, 0, none⟩)] w fun e w' => e = .returned (.bool true) ∧ Below w.heap.size w w' := by
  have H := Lib.hid h
  have HO := Lib.hid (And.intro h1 h2)
  have HE := Lib.hid (show (!(x.now == x.kept)) = true by rw [Bool.not_eq_true', beq_eq_false_iff_ne]; exact he)
  clear h h1 h2 he
  go_enter Tryz.func84, Tryz.ntmps84
  go_upto_region 1 with (fail)
  refine Inv2.wp_region_inv (fun b a wy => ∃ (z : Nat → Value), a = ⟨#[.pointer (some ⟨A.b, 0, none⟩), undef, (z 2), (z 3), (z 4), (z 5), (z 6), (z 7), (z 8), (z 9), (z 10), (z 11), (z 12), (z 13), (z 14), (z 15), (z 16), (z 17), (z 18), (z 19), (z 20)], []⟩ ∧ Hid ((b 0 = true → (z 3) = .pointer (some ⟨A.b, 0, none⟩)) ∧ (b 1 = true → (z 4) = .pointer (some ⟨A.b, 0, none⟩)) ∧ (b 2 = true → (z 5) = .pointer (some ⟨A.b, 23, none⟩)) ∧ (b 3 = true → (z 6) = .agg (scells x.now).toArray) ∧ (b 4 = true → (z 7) = .pointer (some ⟨A.b, 0, none⟩)) ∧ (b 5 = true → (z 8) = .pointer (some ⟨A.b, 0, none⟩)) ∧ (b 6 = true → (z 9) = .pointer (some ⟨A.b, 5, none⟩)) ∧ (b 7 = true → (z 10) = .agg (scells x.kept).toArray) ∧ (b 8 = true → (z 11) = .bool true) ∧ (b 9 = true → (z 12) = .bool true) ∧ (b 10 = true → (z 13) = undef) ∧ (b 11 = true → (z 14) = undef) ∧ (b 12 = true → (z 15) = undef) ∧ (b 13 = true → (z 16) = undef) ∧ (b 14 = true → (z 17) = undef) ∧ (b 15 = true → (z 18) = undef) ∧ (b 16 = true → (z 19) = undef) ∧ (b 17 = true → (z 20) = Value.bool true) ∧ (b 18 = true → (z 2) = Value.bool true)) ∧ Hid (Below w.heap.size w wy)) (by kernel_rfl) (by kernel_rfl) ?startCa ?stepsCa ?doneCa
  case startCa =>
    intro b hb
    refine ⟨fun s => if s = 2 then .bool false else undef, rfl, Lib.hid ⟨?_, ?_, ?_, ?_, ?_, ?_, ?_, ?_, ?_, ?_, ?_, ?_, ?_, ?_, ?_, ?_, ?_, ?_, ?_⟩, Lib.hid ((show Still w w.drew from ⟨rfl, rfl, rfl, rfl⟩).below _)⟩
    all_goals (intro e; first | rfl | (rw [hb _ (by decide)] at e; cases e))
  case stepsCa =>
    refine ⟨?_, ?_, ?_, ?_, ?_, ?_, ?_, ?_, ?_, ?_, ?_, ?_, ?_, ?_, ?_, ?_, ?_, ?_, ?_, trivial⟩
    · rintro b a wy hb hd ⟨z, rfl, HV, HW⟩ K hK
      clear hd
      go_simp
      have V := HV.out
      exact hK _ _ ⟨fun s => if s = 3 then .pointer (some ⟨A.b, 0, none⟩) else z s, rfl, Lib.hid ⟨fun _ => rfl, V.2.1, V.2.2.1, V.2.2.2.1, V.2.2.2.2.1, V.2.2.2.2.2.1, V.2.2.2.2.2.2.1, V.2.2.2.2.2.2.2.1, V.2.2.2.2.2.2.2.2.1, V.2.2.2.2.2.2.2.2.2.1, V.2.2.2.2.2.2.2.2.2.2.1, V.2.2.2.2.2.2.2.2.2.2.2.1, V.2.2.2.2.2.2.2.2.2.2.2.2.1, V.2.2.2.2.2.2.2.2.2.2.2.2.2.1, V.2.2.2.2.2.2.2.2.2.2.2.2.2.2.1, V.2.2.2.2.2.2.2.2.2.2.2.2.2.2.2.1, V.2.2.2.2.2.2.2.2.2.2.2.2.2.2.2.2.1, V.2.2.2.2.2.2.2.2.2.2.2.2.2.2.2.2.2.1, V.2.2.2.2.2.2.2.2.2.2.2.2.2.2.2.2.2.2⟩, HW⟩
    · rintro b a wy hb hd ⟨z, rfl, HV, HW⟩ K hK
      simp [Region.binds] at hd
      have e0 : (z 3) = .pointer (some ⟨A.b, 0, none⟩) := (HV.out.1) (by simp [hd])
      clear hd
      go_simp
      have V := HV.out
      exact hK _ _ ⟨fun s => if s = 4 then .pointer (some ⟨A.b, 0, none⟩) else if s = 3 then .pointer (some ⟨A.b, 0, none⟩) else z s, rfl, Lib.hid ⟨fun _ => rfl, fun _ => rfl, V.2.2.1, V.2.2.2.1, V.2.2.2.2.1, V.2.2.2.2.2.1, V.2.2.2.2.2.2.1, V.2.2.2.2.2.2.2.1, V.2.2.2.2.2.2.2.2.1, V.2.2.2.2.2.2.2.2.2.1, V.2.2.2.2.2.2.2.2.2.2.1, V.2.2.2.2.2.2.2.2.2.2.2.1, V.2.2.2.2.2.2.2.2.2.2.2.2.1, V.2.2.2.2.2.2.2.2.2.2.2.2.2.1, V.2.2.2.2.2.2.2.2.2.2.2.2.2.2.1, V.2.2.2.2.2.2.2.2.2.2.2.2.2.2.2.1, V.2.2.2.2.2.2.2.2.2.2.2.2.2.2.2.2.1, V.2.2.2.2.2.2.2.2.2.2.2.2.2.2.2.2.2.1, V.2.2.2.2.2.2.2.2.2.2.2.2.2.2.2.2.2.2⟩, HW⟩
    · rintro b a wy hb hd ⟨z, rfl, HV, HW⟩ K hK
      simp [Region.binds] at hd
      have e1 : (z 4) = .pointer (some ⟨A.b, 0, none⟩) := (HV.out.2.1) (by simp [hd])
      clear hd
      go_simp
      have V := HV.out
      exact hK _ _ ⟨fun s => if s = 5 then .pointer (some ⟨A.b, 23, none⟩) else if s = 4 then .pointer (some ⟨A.b, 0, none⟩) else z s, rfl, Lib.hid ⟨V.1, fun _ => rfl, fun _ => rfl, V.2.2.2.1, V.2.2.2.2.1, V.2.2.2.2.2.1, V.2.2.2.2.2.2.1, V.2.2.2.2.2.2.2.1, V.2.2.2.2.2.2.2.2.1, V.2.2.2.2.2.2.2.2.2.1, V.2.2.2.2.2.2.2.2.2.2.1, V.2.2.2.2.2.2.2.2.2.2.2.1, V.2.2.2.2.2.2.2.2.2.2.2.2.1, V.2.2.2.2.2.2.2.2.2.2.2.2.2.1, V.2.2.2.2.2.2.2.2.2.2.2.2.2.2.1, V.2.2.2.2.2.2.2.2.2.2.2.2.2.2.2.1, V.2.2.2.2.2.2.2.2.2.2.2.2.2.2.2.2.1, V.2.2.2.2.2.2.2.2.2.2.2.2.2.2.2.2.2.1, V.2.2.2.2.2.2.2.2.2.2.2.2.2.2.2.2.2.2⟩, HW⟩
    · rintro b a wy hb hd ⟨z, rfl, HV, HW⟩ K hK
      simp [Region.binds] at hd
      have e2 : (z 5) = .pointer (some ⟨A.b, 23, none⟩) := (HV.out.2.2.1) (by simp [hd])
      clear hd
      rw [e2]
      refine if_wanted (by rfl) (wp_load_mid 69 (.tmp 5) rfl A.b 23 rfl (scells x.now) _ (H.out.below HW.out).rn Tryz.underlying69 rfl (by rw [sup_size, Su.length_scells]) ?_)
      have V := HV.out
      exact hK _ _ ⟨fun s => if s = 6 then .agg (scells x.now).toArray else if s = 5 then .pointer (some ⟨A.b, 23, none⟩) else z s, rfl, Lib.hid ⟨V.1, V.2.1, fun _ => rfl, fun _ => rfl, V.2.2.2.2.1, V.2.2.2.2.2.1, V.2.2.2.2.2.2.1, V.2.2.2.2.2.2.2.1, V.2.2.2.2.2.2.2.2.1, V.2.2.2.2.2.2.2.2.2.1, V.2.2.2.2.2.2.2.2.2.2.1, V.2.2.2.2.2.2.2.2.2.2.2.1, V.2.2.2.2.2.2.2.2.2.2.2.2.1, V.2.2.2.2.2.2.2.2.2.2.2.2.2.1, V.2.2.2.2.2.2.2.2.2.2.2.2.2.2.1, V.2.2.2.2.2.2.2.2.2.2.2.2.2.2.2.1, V.2.2.2.2.2.2.2.2.2.2.2.2.2.2.2.2.1, V.2.2.2.2.2.2.2.2.2.2.2.2.2.2.2.2.2.1, V.2.2.2.2.2.2.2.2.2.2.2.2.2.2.2.2.2.2⟩, HW⟩
    · rintro b a wy hb hd ⟨z, rfl, HV, HW⟩ K hK
      clear hd
      go_simp
      have V := HV.out
      exact hK _ _ ⟨fun s => if s = 7 then .pointer (some ⟨A.b, 0, none⟩) else z s, rfl, Lib.hid ⟨V.1, V.2.1, V.2.2.1, V.2.2.2.1, fun _ => rfl, V.2.2.2.2.2.1, V.2.2.2.2.2.2.1, V.2.2.2.2.2.2.2.1, V.2.2.2.2.2.2.2.2.1, V.2.2.2.2.2.2.2.2.2.1, V.2.2.2.2.2.2.2.2.2.2.1, V.2.2.2.2.2.2.2.2.2.2.2.1, V.2.2.2.2.2.2.2.2.2.2.2.2.1, V.2.2.2.2.2.2.2.2.2.2.2.2.2.1, V.2.2.2.2.2.2.2.2.2.2.2.2.2.2.1, V.2.2.2.2.2.2.2.2.2.2.2.2.2.2.2.1, V.2.2.2.2.2.2.2.2.2.2.2.2.2.2.2.2.1, V.2.2.2.2.2.2.2.2.2.2.2.2.2.2.2.2.2.1, V.2.2.2.2.2.2.2.2.2.2.2.2.2.2.2.2.2.2⟩, HW⟩
    · rintro b a wy hb hd ⟨z, rfl, HV, HW⟩ K hK
      simp [Region.binds] at hd
      have e4 : (z 7) = .pointer (some ⟨A.b, 0, none⟩) := (HV.out.2.2.2.2.1) (by simp [hd])
      clear hd
      go_simp
      have V := HV.out
      exact hK _ _ ⟨fun s => if s = 8 then .pointer (some ⟨A.b, 0, none⟩) else if s = 7 then .pointer (some ⟨A.b, 0, none⟩) else z s, rfl, Lib.hid ⟨V.1, V.2.1, V.2.2.1, V.2.2.2.1, fun _ => rfl, fun _ => rfl, V.2.2.2.2.2.2.1, V.2.2.2.2.2.2.2.1, V.2.2.2.2.2.2.2.2.1, V.2.2.2.2.2.2.2.2.2.1, V.2.2.2.2.2.2.2.2.2.2.1, V.2.2.2.2.2.2.2.2.2.2.2.1, V.2.2.2.2.2.2.2.2.2.2.2.2.1, V.2.2.2.2.2.2.2.2.2.2.2.2.2.1, V.2.2.2.2.2.2.2.2.2.2.2.2.2.2.1, V.2.2.2.2.2.2.2.2.2.2.2.2.2.2.2.1, V.2.2.2.2.2.2.2.2.2.2.2.2.2.2.2.2.1, V.2.2.2.2.2.2.2.2.2.2.2.2.2.2.2.2.2.1, V.2.2.2.2.2.2.2.2.2.2.2.2.2.2.2.2.2.2⟩, HW⟩
    · rintro b a wy hb hd ⟨z, rfl, HV, HW⟩ K hK
      simp [Region.binds] at hd
      have e5 : (z 8) = .pointer (some ⟨A.b, 0, none⟩) := (HV.out.2.2.2.2.2.1) (by simp [hd])
      clear hd
      go_simp
      have V := HV.out
      exact hK _ _ ⟨fun s => if s = 9 then .pointer (some ⟨A.b, 5, none⟩) else if s = 8 then .pointer (some ⟨A.b, 0, none⟩) else z s, rfl, Lib.hid ⟨V.1, V.2.1, V.2.2.1, V.2.2.2.1, V.2.2.2.2.1, fun _ => rfl, fun _ => rfl, V.2.2.2.2.2.2.2.1, V.2.2.2.2.2.2.2.2.1, V.2.2.2.2.2.2.2.2.2.1, V.2.2.2.2.2.2.2.2.2.2.1, V.2.2.2.2.2.2.2.2.2.2.2.1, V.2.2.2.2.2.2.2.2.2.2.2.2.1, V.2.2.2.2.2.2.2.2.2.2.2.2.2.1, V.2.2.2.2.2.2.2.2.2.2.2.2.2.2.1, V.2.2.2.2.2.2.2.2.2.2.2.2.2.2.2.1, V.2.2.2.2.2.2.2.2.2.2.2.2.2.2.2.2.1, V.2.2.2.2.2.2.2.2.2.2.2.2.2.2.2.2.2.1, V.2.2.2.2.2.2.2.2.2.2.2.2.2.2.2.2.2.2⟩, HW⟩
    · rintro b a wy hb hd ⟨z, rfl, HV, HW⟩ K hK
      simp [Region.binds] at hd
      have e6 : (z 9) = .pointer (some ⟨A.b, 5, none⟩) := (HV.out.2.2.2.2.2.2.1) (by simp [hd])
      clear hd
      rw [e6]
      refine if_wanted (by rfl) (wp_load_mid 69 (.tmp 9) rfl A.b 5 rfl (scells x.kept) _ (H.out.below HW.out).rk Tryz.underlying69 rfl (by rw [sup_size, Su.length_scells]) ?_)
      have V := HV.out
      exact hK _ _ ⟨fun s => if s = 10 then .agg (scells x.kept).toArray else if s = 9 then .pointer (some ⟨A.b, 5, none⟩) else z s, rfl, Lib.hid ⟨V.1, V.2.1, V.2.2.1, V.2.2.2.1, V.2.2.2.2.1, V.2.2.2.2.2.1, fun _ => rfl, fun _ => rfl, V.2.2.2.2.2.2.2.2.1, V.2.2.2.2.2.2.2.2.2.1, V.2.2.2.2.2.2.2.2.2.2.1, V.2.2.2.2.2.2.2.2.2.2.2.1, V.2.2.2.2.2.2.2.2.2.2.2.2.1, V.2.2.2.2.2.2.2.2.2.2.2.2.2.1, V.2.2.2.2.2.2.2.2.2.2.2.2.2.2.1, V.2.2.2.2.2.2.2.2.2.2.2.2.2.2.2.1, V.2.2.2.2.2.2.2.2.2.2.2.2.2.2.2.2.1, V.2.2.2.2.2.2.2.2.2.2.2.2.2.2.2.2.2.1, V.2.2.2.2.2.2.2.2.2.2.2.2.2.2.2.2.2.2⟩, HW⟩
    · rintro b a wy hb hd ⟨z, rfl, HV, HW⟩ K hK
      simp [Region.binds] at hd
      have e3 : (z 6) = .agg (scells x.now).toArray := (HV.out.2.2.2.1) (by simp [hd])
      have e7 : (z 10) = .agg (scells x.kept).toArray := (HV.out.2.2.2.2.2.2.2.1) (by simp [hd])
      clear hd
      rw [e3]
      rw [e7]
      refine if_wanted (by rfl) (Su.wp_neq_sup (.tmp 6) (.tmp 10) _ rfl x.now x.kept HO.out.1 HO.out.2 rfl rfl ?_)
      rw [HE.out]
      have V := HV.out
      exact hK _ _ ⟨fun s => if s = 11 then .bool true else if s = 6 then .agg (scells x.now).toArray else if s = 10 then .agg (scells x.kept).toArray else z s, rfl, Lib.hid ⟨V.1, V.2.1, V.2.2.1, fun _ => rfl, V.2.2.2.2.1, V.2.2.2.2.2.1, V.2.2.2.2.2.2.1, fun _ => rfl, fun _ => rfl, V.2.2.2.2.2.2.2.2.2.1, V.2.2.2.2.2.2.2.2.2.2.1, V.2.2.2.2.2.2.2.2.2.2.2.1, V.2.2.2.2.2.2.2.2.2.2.2.2.1, V.2.2.2.2.2.2.2.2.2.2.2.2.2.1, V.2.2.2.2.2.2.2.2.2.2.2.2.2.2.1, V.2.2.2.2.2.2.2.2.2.2.2.2.2.2.2.1, V.2.2.2.2.2.2.2.2.2.2.2.2.2.2.2.2.1, V.2.2.2.2.2.2.2.2.2.2.2.2.2.2.2.2.2.1, V.2.2.2.2.2.2.2.2.2.2.2.2.2.2.2.2.2.2⟩, HW⟩
    · rintro b a wy hb hd ⟨z, rfl, HV, HW⟩ K hK
      simp [Region.binds] at hd
      have e8 : (z 11) = .bool true := (HV.out.2.2.2.2.2.2.2.2.1) (by simp [hd])
      clear hd
      go_simp
      have V := HV.out
      exact hK _ _ ⟨fun s => if s = 12 then .bool true else if s = 11 then .bool true else z s, rfl, Lib.hid ⟨V.1, V.2.1, V.2.2.1, V.2.2.2.1, V.2.2.2.2.1, V.2.2.2.2.2.1, V.2.2.2.2.2.2.1, V.2.2.2.2.2.2.2.1, fun _ => rfl, fun _ => rfl, V.2.2.2.2.2.2.2.2.2.2.1, V.2.2.2.2.2.2.2.2.2.2.2.1, V.2.2.2.2.2.2.2.2.2.2.2.2.1, V.2.2.2.2.2.2.2.2.2.2.2.2.2.1, V.2.2.2.2.2.2.2.2.2.2.2.2.2.2.1, V.2.2.2.2.2.2.2.2.2.2.2.2.2.2.2.1, V.2.2.2.2.2.2.2.2.2.2.2.2.2.2.2.2.1, V.2.2.2.2.2.2.2.2.2.2.2.2.2.2.2.2.2.1, V.2.2.2.2.2.2.2.2.2.2.2.2.2.2.2.2.2.2⟩, HW⟩
    · rintro b a wy hb hd ⟨z, rfl, HV, HW⟩ K hK
      simp [Region.binds] at hd
      have e9 : (z 12) = .bool true := (HV.out.2.2.2.2.2.2.2.2.2.1) (by simp [hd])
      clear hd
      go_simp
      have V := HV.out
      exact hK _ _ ⟨fun s => if s = 13 then undef else if s = 12 then .bool true else z s, rfl, Lib.hid ⟨V.1, V.2.1, V.2.2.1, V.2.2.2.1, V.2.2.2.2.1, V.2.2.2.2.2.1, V.2.2.2.2.2.2.1, V.2.2.2.2.2.2.2.1, V.2.2.2.2.2.2.2.2.1, fun _ => rfl, fun _ => rfl, V.2.2.2.2.2.2.2.2.2.2.2.1, V.2.2.2.2.2.2.2.2.2.2.2.2.1, V.2.2.2.2.2.2.2.2.2.2.2.2.2.1, V.2.2.2.2.2.2.2.2.2.2.2.2.2.2.1, V.2.2.2.2.2.2.2.2.2.2.2.2.2.2.2.1, V.2.2.2.2.2.2.2.2.2.2.2.2.2.2.2.2.1, V.2.2.2.2.2.2.2.2.2.2.2.2.2.2.2.2.2.1, V.2.2.2.2.2.2.2.2.2.2.2.2.2.2.2.2.2.2⟩, HW⟩
    · rintro b a wy hb hd ⟨z, rfl, HV, HW⟩ K hK
      simp [Region.binds] at hd
      have e9 : (z 12) = .bool true := (HV.out.2.2.2.2.2.2.2.2.2.1) (by simp [hd])
      clear hd
      go_simp
      have V := HV.out
      exact hK _ _ ⟨fun s => if s = 14 then undef else if s = 12 then .bool true else z s, rfl, Lib.hid ⟨V.1, V.2.1, V.2.2.1, V.2.2.2.1, V.2.2.2.2.1, V.2.2.2.2.2.1, V.2.2.2.2.2.2.1, V.2.2.2.2.2.2.2.1, V.2.2.2.2.2.2.2.2.1, fun _ => rfl, V.2.2.2.2.2.2.2.2.2.2.1, fun _ => rfl, V.2.2.2.2.2.2.2.2.2.2.2.2.1, V.2.2.2.2.2.2.2.2.2.2.2.2.2.1, V.2.2.2.2.2.2.2.2.2.2.2.2.2.2.1, V.2.2.2.2.2.2.2.2.2.2.2.2.2.2.2.1, V.2.2.2.2.2.2.2.2.2.2.2.2.2.2.2.2.1, V.2.2.2.2.2.2.2.2.2.2.2.2.2.2.2.2.2.1, V.2.2.2.2.2.2.2.2.2.2.2.2.2.2.2.2.2.2⟩, HW⟩
    · rintro b a wy hb hd ⟨z, rfl, HV, HW⟩ K hK
      simp [Region.binds] at hd
      have e9 : (z 12) = .bool true := (HV.out.2.2.2.2.2.2.2.2.2.1) (by simp [hd])
      clear hd
      go_simp
      have V := HV.out
      exact hK _ _ ⟨fun s => if s = 15 then undef else if s = 12 then .bool true else z s, rfl, Lib.hid ⟨V.1, V.2.1, V.2.2.1, V.2.2.2.1, V.2.2.2.2.1, V.2.2.2.2.2.1, V.2.2.2.2.2.2.1, V.2.2.2.2.2.2.2.1, V.2.2.2.2.2.2.2.2.1, fun _ => rfl, V.2.2.2.2.2.2.2.2.2.2.1, V.2.2.2.2.2.2.2.2.2.2.2.1, fun _ => rfl, V.2.2.2.2.2.2.2.2.2.2.2.2.2.1, V.2.2.2.2.2.2.2.2.2.2.2.2.2.2.1, V.2.2.2.2.2.2.2.2.2.2.2.2.2.2.2.1, V.2.2.2.2.2.2.2.2.2.2.2.2.2.2.2.2.1, V.2.2.2.2.2.2.2.2.2.2.2.2.2.2.2.2.2.1, V.2.2.2.2.2.2.2.2.2.2.2.2.2.2.2.2.2.2⟩, HW⟩
    · rintro b a wy hb hd ⟨z, rfl, HV, HW⟩ K hK
      simp [Region.binds] at hd
      have e9 : (z 12) = .bool true := (HV.out.2.2.2.2.2.2.2.2.2.1) (by simp [hd])
      clear hd
      go_simp
      have V := HV.out
      exact hK _ _ ⟨fun s => if s = 16 then undef else if s = 12 then .bool true else z s, rfl, Lib.hid ⟨V.1, V.2.1, V.2.2.1, V.2.2.2.1, V.2.2.2.2.1, V.2.2.2.2.2.1, V.2.2.2.2.2.2.1, V.2.2.2.2.2.2.2.1, V.2.2.2.2.2.2.2.2.1, fun _ => rfl, V.2.2.2.2.2.2.2.2.2.2.1, V.2.2.2.2.2.2.2.2.2.2.2.1, V.2.2.2.2.2.2.2.2.2.2.2.2.1, fun _ => rfl, V.2.2.2.2.2.2.2.2.2.2.2.2.2.2.1, V.2.2.2.2.2.2.2.2.2.2.2.2.2.2.2.1, V.2.2.2.2.2.2.2.2.2.2.2.2.2.2.2.2.1, V.2.2.2.2.2.2.2.2.2.2.2.2.2.2.2.2.2.1, V.2.2.2.2.2.2.2.2.2.2.2.2.2.2.2.2.2.2⟩, HW⟩
    · rintro b a wy hb hd ⟨z, rfl, HV, HW⟩ K hK
      simp [Region.binds] at hd
      have e9 : (z 12) = .bool true := (HV.out.2.2.2.2.2.2.2.2.2.1) (by simp [hd])
      clear hd
      go_simp
      have V := HV.out
      exact hK _ _ ⟨fun s => if s = 17 then undef else if s = 12 then .bool true else z s, rfl, Lib.hid ⟨V.1, V.2.1, V.2.2.1, V.2.2.2.1, V.2.2.2.2.1, V.2.2.2.2.2.1, V.2.2.2.2.2.2.1, V.2.2.2.2.2.2.2.1, V.2.2.2.2.2.2.2.2.1, fun _ => rfl, V.2.2.2.2.2.2.2.2.2.2.1, V.2.2.2.2.2.2.2.2.2.2.2.1, V.2.2.2.2.2.2.2.2.2.2.2.2.1, V.2.2.2.2.2.2.2.2.2.2.2.2.2.1, fun _ => rfl, V.2.2.2.2.2.2.2.2.2.2.2.2.2.2.2.1, V.2.2.2.2.2.2.2.2.2.2.2.2.2.2.2.2.1, V.2.2.2.2.2.2.2.2.2.2.2.2.2.2.2.2.2.1, V.2.2.2.2.2.2.2.2.2.2.2.2.2.2.2.2.2.2⟩, HW⟩
    · rintro b a wy hb hd ⟨z, rfl, HV, HW⟩ K hK
      simp [Region.binds] at hd
      have e9 : (z 12) = .bool true := (HV.out.2.2.2.2.2.2.2.2.2.1) (by simp [hd])
      clear hd
      go_simp
      have V := HV.out
      exact hK _ _ ⟨fun s => if s = 18 then undef else if s = 12 then .bool true else z s, rfl, Lib.hid ⟨V.1, V.2.1, V.2.2.1, V.2.2.2.1, V.2.2.2.2.1, V.2.2.2.2.2.1, V.2.2.2.2.2.2.1, V.2.2.2.2.2.2.2.1, V.2.2.2.2.2.2.2.2.1, fun _ => rfl, V.2.2.2.2.2.2.2.2.2.2.1, V.2.2.2.2.2.2.2.2.2.2.2.1, V.2.2.2.2.2.2.2.2.2.2.2.2.1, V.2.2.2.2.2.2.2.2.2.2.2.2.2.1, V.2.2.2.2.2.2.2.2.2.2.2.2.2.2.1, fun _ => rfl, V.2.2.2.2.2.2.2.2.2.2.2.2.2.2.2.2.1, V.2.2.2.2.2.2.2.2.2.2.2.2.2.2.2.2.2.1, V.2.2.2.2.2.2.2.2.2.2.2.2.2.2.2.2.2.2⟩, HW⟩
    · rintro b a wy hb hd ⟨z, rfl, HV, HW⟩ K hK
      simp [Region.binds] at hd
      have e9 : (z 12) = .bool true := (HV.out.2.2.2.2.2.2.2.2.2.1) (by simp [hd])
      clear hd
      go_simp
      have V := HV.out
      exact hK _ _ ⟨fun s => if s = 19 then undef else if s = 12 then .bool true else z s, rfl, Lib.hid ⟨V.1, V.2.1, V.2.2.1, V.2.2.2.1, V.2.2.2.2.1, V.2.2.2.2.2.1, V.2.2.2.2.2.2.1, V.2.2.2.2.2.2.2.1, V.2.2.2.2.2.2.2.2.1, fun _ => rfl, V.2.2.2.2.2.2.2.2.2.2.1, V.2.2.2.2.2.2.2.2.2.2.2.1, V.2.2.2.2.2.2.2.2.2.2.2.2.1, V.2.2.2.2.2.2.2.2.2.2.2.2.2.1, V.2.2.2.2.2.2.2.2.2.2.2.2.2.2.1, V.2.2.2.2.2.2.2.2.2.2.2.2.2.2.2.1, fun _ => rfl, V.2.2.2.2.2.2.2.2.2.2.2.2.2.2.2.2.2.1, V.2.2.2.2.2.2.2.2.2.2.2.2.2.2.2.2.2.2⟩, HW⟩
    · rintro b a wy hb hd ⟨z, rfl, HV, HW⟩ K hK
      simp [Region.binds] at hd
      have e9 : (z 12) = .bool true := (HV.out.2.2.2.2.2.2.2.2.2.1) (by simp [hd])
      have e16 : (z 19) = undef := (HV.out.2.2.2.2.2.2.2.2.2.2.2.2.2.2.2.2.1) (by simp [hd])
      clear hd
      go_simp
      have V := HV.out
      exact hK _ _ ⟨fun s => if s = 20 then Value.bool true else if s = 12 then .bool true else if s = 19 then undef else z s, rfl, Lib.hid ⟨V.1, V.2.1, V.2.2.1, V.2.2.2.1, V.2.2.2.2.1, V.2.2.2.2.2.1, V.2.2.2.2.2.2.1, V.2.2.2.2.2.2.2.1, V.2.2.2.2.2.2.2.2.1, fun _ => rfl, V.2.2.2.2.2.2.2.2.2.2.1, V.2.2.2.2.2.2.2.2.2.2.2.1, V.2.2.2.2.2.2.2.2.2.2.2.2.1, V.2.2.2.2.2.2.2.2.2.2.2.2.2.1, V.2.2.2.2.2.2.2.2.2.2.2.2.2.2.1, V.2.2.2.2.2.2.2.2.2.2.2.2.2.2.2.1, fun _ => rfl, fun _ => rfl, V.2.2.2.2.2.2.2.2.2.2.2.2.2.2.2.2.2.2⟩, HW⟩
    · rintro b a wy hb hd ⟨z, rfl, HV, HW⟩ K hK
      simp [Region.binds] at hd
      have e17 : (z 20) = Value.bool true := (HV.out.2.2.2.2.2.2.2.2.2.2.2.2.2.2.2.2.2.1) (by simp [hd])
      clear hd
      go_simp
      have V := HV.out
      exact hK _ _ ⟨fun s => if s = 2 then Value.bool true else if s = 20 then Value.bool true else z s, rfl, Lib.hid ⟨V.1, V.2.1, V.2.2.1, V.2.2.2.1, V.2.2.2.2.1, V.2.2.2.2.2.1, V.2.2.2.2.2.2.1, V.2.2.2.2.2.2.2.1, V.2.2.2.2.2.2.2.2.1, V.2.2.2.2.2.2.2.2.2.1, V.2.2.2.2.2.2.2.2.2.2.1, V.2.2.2.2.2.2.2.2.2.2.2.1, V.2.2.2.2.2.2.2.2.2.2.2.2.1, V.2.2.2.2.2.2.2.2.2.2.2.2.2.1, V.2.2.2.2.2.2.2.2.2.2.2.2.2.2.1, V.2.2.2.2.2.2.2.2.2.2.2.2.2.2.2.1, V.2.2.2.2.2.2.2.2.2.2.2.2.2.2.2.2.1, fun _ => rfl, fun _ => rfl⟩, HW⟩
  case doneCa =>
    rintro b a wy hb ⟨z, rfl, HV, HW⟩
    have e0 := (HV.out.1) (hb 0)
    have e1 := (HV.out.2.1) (hb 1)
    have e2 := (HV.out.2.2.1) (hb 2)
    have e3 := (HV.out.2.2.2.1) (hb 3)
    have e4 := (HV.out.2.2.2.2.1) (hb 4)
    have e5 := (HV.out.2.2.2.2.2.1) (hb 5)
    have e6 := (HV.out.2.2.2.2.2.2.1) (hb 6)
    have e7 := (HV.out.2.2.2.2.2.2.2.1) (hb 7)
    have e8 := (HV.out.2.2.2.2.2.2.2.2.1) (hb 8)
    have e9 := (HV.out.2.2.2.2.2.2.2.2.2.1) (hb 9)
    have e10 := (HV.out.2.2.2.2.2.2.2.2.2.2.1) (hb 10)
    have e11 := (HV.out.2.2.2.2.2.2.2.2.2.2.2.1) (hb 11)
    have e12 := (HV.out.2.2.2.2.2.2.2.2.2.2.2.2.1) (hb 12)
    have e13 := (HV.out.2.2.2.2.2.2.2.2.2.2.2.2.2.1) (hb 13)
    have e14 := (HV.out.2.2.2.2.2.2.2.2.2.2.2.2.2.2.1) (hb 14)
    have e15 := (HV.out.2.2.2.2.2.2.2.2.2.2.2.2.2.2.2.1) (hb 15)
    have e16 := (HV.out.2.2.2.2.2.2.2.2.2.2.2.2.2.2.2.2.1) (hb 16)
    have e17 := (HV.out.2.2.2.2.2.2.2.2.2.2.2.2.2.2.2.2.2.1) (hb 17)
    have e18 := (HV.out.2.2.2.2.2.2.2.2.2.2.2.2.2.2.2.2.2.2) (hb 18)
    simp only [e0, e1, e2, e3, e4, e5, e6, e7, e8, e9, e10, e11, e12, e13, e14, e15, e16, e17, e18]
    clear HV hb e0 e1 e2 e3 e4 e5 e6 e7 e8 e9 e10 e11 e12 e13 e14 e15 e16 e17 e18
    go_wp2_with fail
    go_ret
    exact ⟨rfl, HW.out⟩

set_option maxHeartbeats 1000000 in
theorem changed_b {Pr : Nat → Prop} {w : World} {A : Adr} {x : BS} (h : BAt Pr w A x) (h1 : Su.Ok x.now) (h2 : Su.Ok x.kept) (he : x.now = x.kept) (hc : x.q.s.changed.length = 0) :
    Calls Tryz.prog 84 #[.pointer (some ⟨A.b, 0, none⟩)] w fun e w' => e = .returned (.bool false) ∧ Below w.heap.size w w' := by
  have H := Lib.hid h
  have HO := Lib.hid (And.intro h1 h2)
  have HE := Lib.hid (show (!(x.now == x.kept)) = false by rw [he]; simp)
  have HNN := Lib.hid (show 0 = x.q.s.changed.length from hc.symm)
  clear h h1 h2 he hc
  go_enter Tryz.func84, Tryz.ntmps84
  go_upto_region 1 with (fail)
  refine Inv2.wp_region_inv (fun b a wy => ∃ (z : Nat → Value) (z17 : Value), a = ⟨#[.pointer (some ⟨A.b, 0, none⟩), undef, (z 2), (z 3), (z 4), (z 5), (z 6), (z 7), (z 8), (z 9), (z 10), (z 11), (z 12), (z 13), (z 14), (z 15), (z 16), z17, (z 18), (z 19), (z 20)], []⟩ ∧ Hid ((b 0 = true → (z 3) = .pointer (some ⟨A.b, 0, none⟩)) ∧ (b 1 = true → (z 4) = .pointer (some ⟨A.b, 0, none⟩)) ∧ (b 2 = true → (z 5) = .pointer (some ⟨A.b, 23, none⟩)) ∧ (b 3 = true → (z 6) = .agg (scells x.now).toArray) ∧ (b 4 = true → (z 7) = .pointer (some ⟨A.b, 0, none⟩)) ∧ (b 5 = true → (z 8) = .pointer (some ⟨A.b, 0, none⟩)) ∧ (b 6 = true → (z 9) = .pointer (some ⟨A.b, 5, none⟩)) ∧ (b 7 = true → (z 10) = .agg (scells x.kept).toArray) ∧ (b 8 = true → (z 11) = .bool false) ∧ (b 9 = true → (z 12) = .bool false) ∧ (b 10 = true → (z 13) = .pointer (some ⟨A.b, 0, none⟩)) ∧ (b 11 = true → (z 14) = .pointer (some ⟨A.b, 0, none⟩)) ∧ (b 12 = true → (z 15) = .pointer (some ⟨A.b, 1, none⟩)) ∧ (b 13 = true → (z 16) = .pointer (some ⟨A.ta, 0, none⟩)) ∧ (b 15 = true → (z 18) = .int .i64 0) ∧ (b 16 = true → (z 19) = .bool false) ∧ (b 17 = true → (z 20) = .bool false) ∧ (b 18 = true → (z 2) = .bool false)) ∧ Hid (Below w.heap.size w wy) ∧ Hid (∃ AL c, (b 14 = true → z17 = .slice AL 0 c) ∧ (b 15 = true → b 14 = true))) (by kernel_rfl) (by kernel_rfl) ?startCb ?stepsCb ?doneCb
  case startCb =>
    intro b hb
    refine ⟨fun s => if s = 2 then .bool false else undef, undef, rfl, Lib.hid ⟨?_, ?_, ?_, ?_, ?_, ?_, ?_, ?_, ?_, ?_, ?_, ?_, ?_, ?_, ?_, ?_, ?_, ?_⟩, Lib.hid ((show Still w w.drew from ⟨rfl, rfl, rfl, rfl⟩).below _), Lib.hid (⟨none, 0, (fun e => by rw [hb _ (by decide)] at e; cases e), (fun e => by rw [hb _ (by decide)] at e; cases e)⟩)⟩
    all_goals (intro e; first | rfl | (rw [hb _ (by decide)] at e; cases e))
  case stepsCb =>
    refine ⟨?_, ?_, ?_, ?_, ?_, ?_, ?_, ?_, ?_, ?_, ?_, ?_, ?_, ?_, ?_, ?_, ?_, ?_, ?_, trivial⟩
    · rintro b a wy hb hd ⟨z, z17, rfl, HV, HW, HX⟩ K hK
      clear hd
      go_simp
      have V := HV.out
      exact hK _ _ ⟨fun s => if s = 3 then .pointer (some ⟨A.b, 0, none⟩) else z s, _, rfl, Lib.hid ⟨fun _ => rfl, V.2.1, V.2.2.1, V.2.2.2.1, V.2.2.2.2.1, V.2.2.2.2.2.1, V.2.2.2.2.2.2.1, V.2.2.2.2.2.2.2.1, V.2.2.2.2.2.2.2.2.1, V.2.2.2.2.2.2.2.2.2.1, V.2.2.2.2.2.2.2.2.2.2.1, V.2.2.2.2.2.2.2.2.2.2.2.1, V.2.2.2.2.2.2.2.2.2.2.2.2.1, V.2.2.2.2.2.2.2.2.2.2.2.2.2.1, V.2.2.2.2.2.2.2.2.2.2.2.2.2.2.1, V.2.2.2.2.2.2.2.2.2.2.2.2.2.2.2.1, V.2.2.2.2.2.2.2.2.2.2.2.2.2.2.2.2.1, V.2.2.2.2.2.2.2.2.2.2.2.2.2.2.2.2.2⟩, HW, HX⟩
    · rintro b a wy hb hd ⟨z, z17, rfl, HV, HW, HX⟩ K hK
      simp [Region.binds] at hd
      have e0 : (z 3) = .pointer (some ⟨A.b, 0, none⟩) := (HV.out.1) (by simp [hd])
      clear hd
      go_simp
      have V := HV.out
      exact hK _ _ ⟨fun s => if s = 4 then .pointer (some ⟨A.b, 0, none⟩) else if s = 3 then .pointer (some ⟨A.b, 0, none⟩) else z s, _, rfl, Lib.hid ⟨fun _ => rfl, fun _ => rfl, V.2.2.1, V.2.2.2.1, V.2.2.2.2.1, V.2.2.2.2.2.1, V.2.2.2.2.2.2.1, V.2.2.2.2.2.2.2.1, V.2.2.2.2.2.2.2.2.1, V.2.2.2.2.2.2.2.2.2.1, V.2.2.2.2.2.2.2.2.2.2.1, V.2.2.2.2.2.2.2.2.2.2.2.1, V.2.2.2.2.2.2.2.2.2.2.2.2.1, V.2.2.2.2.2.2.2.2.2.2.2.2.2.1, V.2.2.2.2.2.2.2.2.2.2.2.2.2.2.1, V.2.2.2.2.2.2.2.2.2.2.2.2.2.2.2.1, V.2.2.2.2.2.2.2.2.2.2.2.2.2.2.2.2.1, V.2.2.2.2.2.2.2.2.2.2.2.2.2.2.2.2.2⟩, HW, HX⟩
    · rintro b a wy hb hd ⟨z, z17, rfl, HV, HW, HX⟩ K hK
      simp [Region.binds] at hd
      have e1 : (z 4) = .pointer (some ⟨A.b, 0, none⟩) := (HV.out.2.1) (by simp [hd])
      clear hd
      go_simp
      have V := HV.out
      exact hK _ _ ⟨fun s => if s = 5 then .pointer (some ⟨A.b, 23, none⟩) else if s = 4 then .pointer (some ⟨A.b, 0, none⟩) else z s, _, rfl, Lib.hid ⟨V.1, fun _ => rfl, fun _ => rfl, V.2.2.2.1, V.2.2.2.2.1, V.2.2.2.2.2.1, V.2.2.2.2.2.2.1, V.2.2.2.2.2.2.2.1, V.2.2.2.2.2.2.2.2.1, V.2.2.2.2.2.2.2.2.2.1, V.2.2.2.2.2.2.2.2.2.2.1, V.2.2.2.2.2.2.2.2.2.2.2.1, V.2.2.2.2.2.2.2.2.2.2.2.2.1, V.2.2.2.2.2.2.2.2.2.2.2.2.2.1, V.2.2.2.2.2.2.2.2.2.2.2.2.2.2.1, V.2.2.2.2.2.2.2.2.2.2.2.2.2.2.2.1, V.2.2.2.2.2.2.2.2.2.2.2.2.2.2.2.2.1, V.2.2.2.2.2.2.2.2.2.2.2.2.2.2.2.2.2⟩, HW, HX⟩
    · rintro b a wy hb hd ⟨z, z17, rfl, HV, HW, HX⟩ K hK
      simp [Region.binds] at hd
      have e2 : (z 5) = .pointer (some ⟨A.b, 23, none⟩) := (HV.out.2.2.1) (by simp [hd])
      clear hd
      rw [e2]
      refine if_wanted (by rfl) (wp_load_mid 69 (.tmp 5) rfl A.b 23 rfl (scells x.now) _ (H.out.below HW.out).rn Tryz.underlying69 rfl (by rw [sup_size, Su.length_scells]) ?_)
      have V := HV.out
      exact hK _ _ ⟨fun s => if s = 6 then .agg (scells x.now).toArray else if s = 5 then .pointer (some ⟨A.b, 23, none⟩) else z s, _, rfl, Lib.hid ⟨V.1, V.2.1, fun _ => rfl, fun _ => rfl, V.2.2.2.2.1, V.2.2.2.2.2.1, V.2.2.2.2.2.2.1, V.2.2.2.2.2.2.2.1, V.2.2.2.2.2.2.2.2.1, V.2.2.2.2.2.2.2.2.2.1, V.2.2.2.2.2.2.2.2.2.2.1, V.2.2.2.2.2.2.2.2.2.2.2.1, V.2.2.2.2.2.2.2.2.2.2.2.2.1, V.2.2.2.2.2.2.2.2.2.2.2.2.2.1, V.2.2.2.2.2.2.2.2.2.2.2.2.2.2.1, V.2.2.2.2.2.2.2.2.2.2.2.2.2.2.2.1, V.2.2.2.2.2.2.2.2.2.2.2.2.2.2.2.2.1, V.2.2.2.2.2.2.2.2.2.2.2.2.2.2.2.2.2⟩, HW, HX⟩
    · rintro b a wy hb hd ⟨z, z17, rfl, HV, HW, HX⟩ K hK
      clear hd
      go_simp
      have V := HV.out
      exact hK _ _ ⟨fun s => if s = 7 then .pointer (some ⟨A.b, 0, none⟩) else z s, _, rfl, Lib.hid ⟨V.1, V.2.1, V.2.2.1, V.2.2.2.1, fun _ => rfl, V.2.2.2.2.2.1, V.2.2.2.2.2.2.1, V.2.2.2.2.2.2.2.1, V.2.2.2.2.2.2.2.2.1, V.2.2.2.2.2.2.2.2.2.1, V.2.2.2.2.2.2.2.2.2.2.1, V.2.2.2.2.2.2.2.2.2.2.2.1, V.2.2.2.2.2.2.2.2.2.2.2.2.1, V.2.2.2.2.2.2.2.2.2.2.2.2.2.1, V.2.2.2.2.2.2.2.2.2.2.2.2.2.2.1, V.2.2.2.2.2.2.2.2.2.2.2.2.2.2.2.1, V.2.2.2.2.2.2.2.2.2.2.2.2.2.2.2.2.1, V.2.2.2.2.2.2.2.2.2.2.2.2.2.2.2.2.2⟩, HW, HX⟩
    · rintro b a wy hb hd ⟨z, z17, rfl, HV, HW, HX⟩ K hK
      simp [Region.binds] at hd
      have e4 : (z 7) = .pointer (some ⟨A.b, 0, none⟩) := (HV.out.2.2.2.2.1) (by simp [hd])
      clear hd
      go_simp
      have V := HV.out
      exact hK _ _ ⟨fun s => if s = 8 then .pointer (some ⟨A.b, 0, none⟩) else if s = 7 then .pointer (some ⟨A.b, 0, none⟩) else z s, _, rfl, Lib.hid ⟨V.1, V.2.1, V.2.2.1, V.2.2.2.1, fun _ => rfl, fun _ => rfl, V.2.2.2.2.2.2.1, V.2.2.2.2.2.2.2.1, V.2.2.2.2.2.2.2.2.1, V.2.2.2.2.2.2.2.2.2.1, V.2.2.2.2.2.2.2.2.2.2.1, V.2.2.2.2.2.2.2.2.2.2.2.1, V.2.2.2.2.2.2.2.2.2.2.2.2.1, V.2.2.2.2.2.2.2.2.2.2.2.2.2.1, V.2.2.2.2.2.2.2.2.2.2.2.2.2.2.1, V.2.2.2.2.2.2.2.2.2.2.2.2.2.2.2.1, V.2.2.2.2.2.2.2.2.2.2.2.2.2.2.2.2.1, V.2.2.2.2.2.2.2.2.2.2.2.2.2.2.2.2.2⟩, HW, HX⟩
    · rintro b a wy hb hd ⟨z, z17, rfl, HV, HW, HX⟩ K hK
      simp [Region.binds] at hd
      have e5 : (z 8) = .pointer (some ⟨A.b, 0, none⟩) := (HV.out.2.2.2.2.2.1) (by simp [hd])
      clear hd
      go_simp
      have V := HV.out
      exact hK _ _ ⟨fun s => if s = 9 then .pointer (some ⟨A.b, 5, none⟩) else if s = 8 then .pointer (some ⟨A.b, 0, none⟩) else z s, _, rfl, Lib.hid ⟨V.1, V.2.1, V.2.2.1, V.2.2.2.1, V.2.2.2.2.1, fun _ => rfl, fun _ => rfl, V.2.2.2.2.2.2.2.1, V.2.2.2.2.2.2.2.2.1, V.2.2.2.2.2.2.2.2.2.1, V.2.2.2.2.2.2.2.2.2.2.1, V.2.2.2.2.2.2.2.2.2.2.2.1, V.2.2.2.2.2.2.2.2.2.2.2.2.1, V.2.2.2.2.2.2.2.2.2.2.2.2.2.1, V.2.2.2.2.2.2.2.2.2.2.2.2.2.2.1, V.2.2.2.2.2.2.2.2.2.2.2.2.2.2.2.1, V.2.2.2.2.2.2.2.2.2.2.2.2.2.2.2.2.1, V.2.2.2.2.2.2.2.2.2.2.2.2.2.2.2.2.2⟩, HW, HX⟩
    · rintro b a wy hb hd ⟨z, z17, rfl, HV, HW, HX⟩ K hK
      simp [Region.binds] at hd
      have e6 : (z 9) = .pointer (some ⟨A.b, 5, none⟩) := (HV.out.2.2.2.2.2.2.1) (by simp [hd])
      clear hd
      rw [e6]
      refine if_wanted (by rfl) (wp_load_mid 69 (.tmp 9) rfl A.b 5 rfl (scells x.kept) _ (H.out.below HW.out).rk Tryz.underlying69 rfl (by rw [sup_size, Su.length_scells]) ?_)
      have V := HV.out
      exact hK _ _ ⟨fun s => if s = 10 then .agg (scells x.kept).toArray else if s = 9 then .pointer (some ⟨A.b, 5, none⟩) else z s, _, rfl, Lib.hid ⟨V.1, V.2.1, V.2.2.1, V.2.2.2.1, V.2.2.2.2.1, V.2.2.2.2.2.1, fun _ => rfl, fun _ => rfl, V.2.2.2.2.2.2.2.2.1, V.2.2.2.2.2.2.2.2.2.1, V.2.2.2.2.2.2.2.2.2.2.1, V.2.2.2.2.2.2.2.2.2.2.2.1, V.2.2.2.2.2.2.2.2.2.2.2.2.1, V.2.2.2.2.2.2.2.2.2.2.2.2.2.1, V.2.2.2.2.2.2.2.2.2.2.2.2.2.2.1, V.2.2.2.2.2.2.2.2.2.2.2.2.2.2.2.1, V.2.2.2.2.2.2.2.2.2.2.2.2.2.2.2.2.1, V.2.2.2.2.2.2.2.2.2.2.2.2.2.2.2.2.2⟩, HW, HX⟩
    · rintro b a wy hb hd ⟨z, z17, rfl, HV, HW, HX⟩ K hK
      simp [Region.binds] at hd
      have e3 : (z 6) = .agg (scells x.now).toArray := (HV.out.2.2.2.1) (by simp [hd])
      have e7 : (z 10) = .agg (scells x.kept).toArray := (HV.out.2.2.2.2.2.2.2.1) (by simp [hd])
      clear hd
      rw [e3]
      rw [e7]
      refine if_wanted (by rfl) (Su.wp_neq_sup (.tmp 6) (.tmp 10) _ rfl x.now x.kept HO.out.1 HO.out.2 rfl rfl ?_)
      rw [HE.out]
      have V := HV.out
      exact hK _ _ ⟨fun s => if s = 11 then .bool false else if s = 6 then .agg (scells x.now).toArray else if s = 10 then .agg (scells x.kept).toArray else z s, _, rfl, Lib.hid ⟨V.1, V.2.1, V.2.2.1, fun _ => rfl, V.2.2.2.2.1, V.2.2.2.2.2.1, V.2.2.2.2.2.2.1, fun _ => rfl, fun _ => rfl, V.2.2.2.2.2.2.2.2.2.1, V.2.2.2.2.2.2.2.2.2.2.1, V.2.2.2.2.2.2.2.2.2.2.2.1, V.2.2.2.2.2.2.2.2.2.2.2.2.1, V.2.2.2.2.2.2.2.2.2.2.2.2.2.1, V.2.2.2.2.2.2.2.2.2.2.2.2.2.2.1, V.2.2.2.2.2.2.2.2.2.2.2.2.2.2.2.1, V.2.2.2.2.2.2.2.2.2.2.2.2.2.2.2.2.1, V.2.2.2.2.2.2.2.2.2.2.2.2.2.2.2.2.2⟩, HW, HX⟩
    · rintro b a wy hb hd ⟨z, z17, rfl, HV, HW, HX⟩ K hK
      simp [Region.binds] at hd
      have e8 : (z 11) = .bool false := (HV.out.2.2.2.2.2.2.2.2.1) (by simp [hd])
      clear hd
      go_simp
      have V := HV.out
      exact hK _ _ ⟨fun s => if s = 12 then .bool false else if s = 11 then .bool false else z s, _, rfl, Lib.hid ⟨V.1, V.2.1, V.2.2.1, V.2.2.2.1, V.2.2.2.2.1, V.2.2.2.2.2.1, V.2.2.2.2.2.2.1, V.2.2.2.2.2.2.2.1, fun _ => rfl, fun _ => rfl, V.2.2.2.2.2.2.2.2.2.2.1, V.2.2.2.2.2.2.2.2.2.2.2.1, V.2.2.2.2.2.2.2.2.2.2.2.2.1, V.2.2.2.2.2.2.2.2.2.2.2.2.2.1, V.2.2.2.2.2.2.2.2.2.2.2.2.2.2.1, V.2.2.2.2.2.2.2.2.2.2.2.2.2.2.2.1, V.2.2.2.2.2.2.2.2.2.2.2.2.2.2.2.2.1, V.2.2.2.2.2.2.2.2.2.2.2.2.2.2.2.2.2⟩, HW, HX⟩
    · rintro b a wy hb hd ⟨z, z17, rfl, HV, HW, HX⟩ K hK
      simp [Region.binds] at hd
      have e9 : (z 12) = .bool false := (HV.out.2.2.2.2.2.2.2.2.2.1) (by simp [hd])
      clear hd
      go_simp
      have V := HV.out
      exact hK _ _ ⟨fun s => if s = 13 then .pointer (some ⟨A.b, 0, none⟩) else if s = 12 then .bool false else z s, _, rfl, Lib.hid ⟨V.1, V.2.1, V.2.2.1, V.2.2.2.1, V.2.2.2.2.1, V.2.2.2.2.2.1, V.2.2.2.2.2.2.1, V.2.2.2.2.2.2.2.1, V.2.2.2.2.2.2.2.2.1, fun _ => rfl, fun _ => rfl, V.2.2.2.2.2.2.2.2.2.2.2.1, V.2.2.2.2.2.2.2.2.2.2.2.2.1, V.2.2.2.2.2.2.2.2.2.2.2.2.2.1, V.2.2.2.2.2.2.2.2.2.2.2.2.2.2.1, V.2.2.2.2.2.2.2.2.2.2.2.2.2.2.2.1, V.2.2.2.2.2.2.2.2.2.2.2.2.2.2.2.2.1, V.2.2.2.2.2.2.2.2.2.2.2.2.2.2.2.2.2⟩, HW, HX⟩
    · rintro b a wy hb hd ⟨z, z17, rfl, HV, HW, HX⟩ K hK
      simp [Region.binds] at hd
      have e9 : (z 12) = .bool false := (HV.out.2.2.2.2.2.2.2.2.2.1) (by simp [hd])
      have e10 : (z 13) = .pointer (some ⟨A.b, 0, none⟩) := (HV.out.2.2.2.2.2.2.2.2.2.2.1) (by simp [hd])
      clear hd
      go_simp
      have V := HV.out
      exact hK _ _ ⟨fun s => if s = 14 then .pointer (some ⟨A.b, 0, none⟩) else if s = 12 then .bool false else if s = 13 then .pointer (some ⟨A.b, 0, none⟩) else z s, _, rfl, Lib.hid ⟨V.1, V.2.1, V.2.2.1, V.2.2.2.1, V.2.2.2.2.1, V.2.2.2.2.2.1, V.2.2.2.2.2.2.1, V.2.2.2.2.2.2.2.1, V.2.2.2.2.2.2.2.2.1, fun _ => rfl, fun _ => rfl, fun _ => rfl, V.2.2.2.2.2.2.2.2.2.2.2.2.1, V.2.2.2.2.2.2.2.2.2.2.2.2.2.1, V.2.2.2.2.2.2.2.2.2.2.2.2.2.2.1, V.2.2.2.2.2.2.2.2.2.2.2.2.2.2.2.1, V.2.2.2.2.2.2.2.2.2.2.2.2.2.2.2.2.1, V.2.2.2.2.2.2.2.2.2.2.2.2.2.2.2.2.2⟩, HW, HX⟩
    · rintro b a wy hb hd ⟨z, z17, rfl, HV, HW, HX⟩ K hK
      simp [Region.binds] at hd
      have e9 : (z 12) = .bool false := (HV.out.2.2.2.2.2.2.2.2.2.1) (by simp [hd])
      have e11 : (z 14) = .pointer (some ⟨A.b, 0, none⟩) := (HV.out.2.2.2.2.2.2.2.2.2.2.2.1) (by simp [hd])
      clear hd
      go_simp
      have V := HV.out
      exact hK _ _ ⟨fun s => if s = 15 then .pointer (some ⟨A.b, 1, none⟩) else if s = 12 then .bool false else if s = 14 then .pointer (some ⟨A.b, 0, none⟩) else z s, _, rfl, Lib.hid ⟨V.1, V.2.1, V.2.2.1, V.2.2.2.1, V.2.2.2.2.1, V.2.2.2.2.2.1, V.2.2.2.2.2.2.1, V.2.2.2.2.2.2.2.1, V.2.2.2.2.2.2.2.2.1, fun _ => rfl, V.2.2.2.2.2.2.2.2.2.2.1, fun _ => rfl, fun _ => rfl, V.2.2.2.2.2.2.2.2.2.2.2.2.2.1, V.2.2.2.2.2.2.2.2.2.2.2.2.2.2.1, V.2.2.2.2.2.2.2.2.2.2.2.2.2.2.2.1, V.2.2.2.2.2.2.2.2.2.2.2.2.2.2.2.2.1, V.2.2.2.2.2.2.2.2.2.2.2.2.2.2.2.2.2⟩, HW, HX⟩
    · rintro b a wy hb hd ⟨z, z17, rfl, HV, HW, HX⟩ K hK
      simp [Region.binds] at hd
      have e9 : (z 12) = .bool false := (HV.out.2.2.2.2.2.2.2.2.2.1) (by simp [hd])
      have e12 : (z 15) = .pointer (some ⟨A.b, 1, none⟩) := (HV.out.2.2.2.2.2.2.2.2.2.2.2.2.1) (by simp [hd])
      clear hd
      have cc := (H.out.below HW.out).c1
      go_simp
      have V := HV.out
      exact hK _ _ ⟨fun s => if s = 16 then .pointer (some ⟨A.ta, 0, none⟩) else if s = 12 then .bool false else if s = 15 then .pointer (some ⟨A.b, 1, none⟩) else z s, _, rfl, Lib.hid ⟨V.1, V.2.1, V.2.2.1, V.2.2.2.1, V.2.2.2.2.1, V.2.2.2.2.2.1, V.2.2.2.2.2.2.1, V.2.2.2.2.2.2.2.1, V.2.2.2.2.2.2.2.2.1, fun _ => rfl, V.2.2.2.2.2.2.2.2.2.2.1, V.2.2.2.2.2.2.2.2.2.2.2.1, fun _ => rfl, fun _ => rfl, V.2.2.2.2.2.2.2.2.2.2.2.2.2.2.1, V.2.2.2.2.2.2.2.2.2.2.2.2.2.2.2.1, V.2.2.2.2.2.2.2.2.2.2.2.2.2.2.2.2.1, V.2.2.2.2.2.2.2.2.2.2.2.2.2.2.2.2.2⟩, HW, HX⟩
    · rintro b a wy hb hd ⟨z, z17, rfl, HV, HW, HX⟩ K hK
      simp [Region.binds] at hd
      have e9 : (z 12) = .bool false := (HV.out.2.2.2.2.2.2.2.2.2.1) (by simp [hd])
      have e13 : (z 16) = .pointer (some ⟨A.ta, 0, none⟩) := (HV.out.2.2.2.2.2.2.2.2.2.2.2.2.2.1) (by simp [hd])
      clear hd
      go_simp
      go_at_call 145
      refine (Tl.list_at (H.out.below HW.out).pat.tally).mono ?_
      rintro e wz ⟨v, rfl, ⟨AL, c, rfl, _⟩, kz⟩
      try go_simp
      have V := HV.out
      exact hK _ _ ⟨fun s => if s = 12 then .bool false else if s = 16 then .pointer (some ⟨A.ta, 0, none⟩) else z s, _, rfl, Lib.hid ⟨V.1, V.2.1, V.2.2.1, V.2.2.2.1, V.2.2.2.2.1, V.2.2.2.2.2.1, V.2.2.2.2.2.2.1, V.2.2.2.2.2.2.2.1, V.2.2.2.2.2.2.2.2.1, fun _ => rfl, V.2.2.2.2.2.2.2.2.2.2.1, V.2.2.2.2.2.2.2.2.2.2.2.1, V.2.2.2.2.2.2.2.2.2.2.2.2.1, fun _ => rfl, V.2.2.2.2.2.2.2.2.2.2.2.2.2.2.1, V.2.2.2.2.2.2.2.2.2.2.2.2.2.2.2.1, V.2.2.2.2.2.2.2.2.2.2.2.2.2.2.2.2.1, V.2.2.2.2.2.2.2.2.2.2.2.2.2.2.2.2.2⟩, Lib.hid (HW.out.trans (kz.mono HW.out.size)), Lib.hid ⟨AL, c, fun _ => by rw [HNN.out], fun e => (let ⟨_, _, _, q⟩ := HX.out; absurd (hb.symm.trans (q e)) (by decide))⟩⟩
    · rintro b a wy hb hd ⟨z, z17, rfl, HV, HW, HX⟩ K hK
      simp [Region.binds] at hd
      have e9 : (z 12) = .bool false := (HV.out.2.2.2.2.2.2.2.2.2.1) (by simp [hd])
      have dd14 : b 14 = true := by simp [hd]
      clear hd
      obtain ⟨AL, c, x1, x2⟩ := HX.out
      have zz := x1 dd14
      subst zz
      go_simp
      have V := HV.out
      exact hK _ _ ⟨fun s => if s = 18 then .int .i64 0 else if s = 12 then .bool false else z s, _, rfl, Lib.hid ⟨V.1, V.2.1, V.2.2.1, V.2.2.2.1, V.2.2.2.2.1, V.2.2.2.2.2.1, V.2.2.2.2.2.2.1, V.2.2.2.2.2.2.2.1, V.2.2.2.2.2.2.2.2.1, fun _ => rfl, V.2.2.2.2.2.2.2.2.2.2.1, V.2.2.2.2.2.2.2.2.2.2.2.1, V.2.2.2.2.2.2.2.2.2.2.2.2.1, V.2.2.2.2.2.2.2.2.2.2.2.2.2.1, fun _ => rfl, V.2.2.2.2.2.2.2.2.2.2.2.2.2.2.2.1, V.2.2.2.2.2.2.2.2.2.2.2.2.2.2.2.2.1, V.2.2.2.2.2.2.2.2.2.2.2.2.2.2.2.2.2⟩, HW, Lib.hid ⟨AL, c, fun _ => rfl, fun _ => dd14⟩⟩
    · rintro b a wy hb hd ⟨z, z17, rfl, HV, HW, HX⟩ K hK
      simp [Region.binds] at hd
      have e9 : (z 12) = .bool false := (HV.out.2.2.2.2.2.2.2.2.2.1) (by simp [hd])
      have e15 : (z 18) = .int .i64 0 := (HV.out.2.2.2.2.2.2.2.2.2.2.2.2.2.2.1) (by simp [hd])
      clear hd
      go_simp
      have V := HV.out
      exact hK _ _ ⟨fun s => if s = 19 then .bool false else if s = 12 then .bool false else if s = 18 then .int .i64 0 else z s, _, rfl, Lib.hid ⟨V.1, V.2.1, V.2.2.1, V.2.2.2.1, V.2.2.2.2.1, V.2.2.2.2.2.1, V.2.2.2.2.2.2.1, V.2.2.2.2.2.2.2.1, V.2.2.2.2.2.2.2.2.1, fun _ => rfl, V.2.2.2.2.2.2.2.2.2.2.1, V.2.2.2.2.2.2.2.2.2.2.2.1, V.2.2.2.2.2.2.2.2.2.2.2.2.1, V.2.2.2.2.2.2.2.2.2.2.2.2.2.1, fun _ => rfl, fun _ => rfl, V.2.2.2.2.2.2.2.2.2.2.2.2.2.2.2.2.1, V.2.2.2.2.2.2.2.2.2.2.2.2.2.2.2.2.2⟩, HW, HX⟩
    · rintro b a wy hb hd ⟨z, z17, rfl, HV, HW, HX⟩ K hK
      simp [Region.binds] at hd
      have e9 : (z 12) = .bool false := (HV.out.2.2.2.2.2.2.2.2.2.1) (by simp [hd])
      have e16 : (z 19) = .bool false := (HV.out.2.2.2.2.2.2.2.2.2.2.2.2.2.2.2.1) (by simp [hd])
      clear hd
      go_simp
      have V := HV.out
      exact hK _ _ ⟨fun s => if s = 20 then .bool false else if s = 12 then .bool false else if s = 19 then .bool false else z s, _, rfl, Lib.hid ⟨V.1, V.2.1, V.2.2.1, V.2.2.2.1, V.2.2.2.2.1, V.2.2.2.2.2.1, V.2.2.2.2.2.2.1, V.2.2.2.2.2.2.2.1, V.2.2.2.2.2.2.2.2.1, fun _ => rfl, V.2.2.2.2.2.2.2.2.2.2.1, V.2.2.2.2.2.2.2.2.2.2.2.1, V.2.2.2.2.2.2.2.2.2.2.2.2.1, V.2.2.2.2.2.2.2.2.2.2.2.2.2.1, V.2.2.2.2.2.2.2.2.2.2.2.2.2.2.1, fun _ => rfl, fun _ => rfl, V.2.2.2.2.2.2.2.2.2.2.2.2.2.2.2.2.2⟩, HW, HX⟩
    · rintro b a wy hb hd ⟨z, z17, rfl, HV, HW, HX⟩ K hK
      simp [Region.binds] at hd
      have e17 : (z 20) = .bool false := (HV.out.2.2.2.2.2.2.2.2.2.2.2.2.2.2.2.2.1) (by simp [hd])
      clear hd
      go_simp
      have V := HV.out
      exact hK _ _ ⟨fun s => if s = 2 then .bool false else if s = 20 then .bool false else z s, _, rfl, Lib.hid ⟨V.1, V.2.1, V.2.2.1, V.2.2.2.1, V.2.2.2.2.1, V.2.2.2.2.2.1, V.2.2.2.2.2.2.1, V.2.2.2.2.2.2.2.1, V.2.2.2.2.2.2.2.2.1, V.2.2.2.2.2.2.2.2.2.1, V.2.2.2.2.2.2.2.2.2.2.1, V.2.2.2.2.2.2.2.2.2.2.2.1, V.2.2.2.2.2.2.2.2.2.2.2.2.1, V.2.2.2.2.2.2.2.2.2.2.2.2.2.1, V.2.2.2.2.2.2.2.2.2.2.2.2.2.2.1, V.2.2.2.2.2.2.2.2.2.2.2.2.2.2.2.1, fun _ => rfl, fun _ => rfl⟩, HW, HX⟩
  case doneCb =>
    rintro b a wy hb ⟨z, z17, rfl, HV, HW, HX⟩
    have e0 := (HV.out.1) (hb 0)
    have e1 := (HV.out.2.1) (hb 1)
    have e2 := (HV.out.2.2.1) (hb 2)
    have e3 := (HV.out.2.2.2.1) (hb 3)
    have e4 := (HV.out.2.2.2.2.1) (hb 4)
    have e5 := (HV.out.2.2.2.2.2.1) (hb 5)
    have e6 := (HV.out.2.2.2.2.2.2.1) (hb 6)
    have e7 := (HV.out.2.2.2.2.2.2.2.1) (hb 7)
    have e8 := (HV.out.2.2.2.2.2.2.2.2.1) (hb 8)
    have e9 := (HV.out.2.2.2.2.2.2.2.2.2.1) (hb 9)
    have e10 := (HV.out.2.2.2.2.2.2.2.2.2.2.1) (hb 10)
    have e11 := (HV.out.2.2.2.2.2.2.2.2.2.2.2.1) (hb 11)
    have e12 := (HV.out.2.2.2.2.2.2.2.2.2.2.2.2.1) (hb 12)
    have e13 := (HV.out.2.2.2.2.2.2.2.2.2.2.2.2.2.1) (hb 13)
    have e15 := (HV.out.2.2.2.2.2.2.2.2.2.2.2.2.2.2.1) (hb 15)
    have e16 := (HV.out.2.2.2.2.2.2.2.2.2.2.2.2.2.2.2.1) (hb 16)
    have e17 := (HV.out.2.2.2.2.2.2.2.2.2.2.2.2.2.2.2.2.1) (hb 17)
    have e18 := (HV.out.2.2.2.2.2.2.2.2.2.2.2.2.2.2.2.2.2) (hb 18)
    simp only [e0, e1, e2, e3, e4, e5, e6, e7, e8, e9, e10, e11, e12, e13, e15, e16, e17, e18]
    clear HV e0 e1 e2 e3 e4 e5 e6 e7 e8 e9 e10 e11 e12 e13 e15 e16 e17 e18
    clear HX
    go_wp2_with fail
    go_ret
    exact ⟨rfl, HW.out⟩

set_option maxHeartbeats 1000000 in
theorem changed_c {Pr : Nat → Prop} {w : World} {A : Adr} {x : BS} (h : BAt Pr w A x) (h1 : Su.Ok x.now) (h2 : Su.Ok x.kept) (he : x.now = x.kept) (hc : 0 < x.q.s.changed.length) :
    Calls Tryz.prog 84 #[.pointer (some ⟨A.b, 0, none⟩)] w fun e w' => e = .returned (.bool true) ∧ Below w.heap.size w w' := by
  have H := Lib.hid h
  have HO := Lib.hid (And.intro h1 h2)
  have HE := Lib.hid (show (!(x.now == x.kept)) = false by rw [he]; simp)
  obtain ⟨n, hn⟩ : ∃ n, n = x.q.s.changed.length := ⟨_, rfl⟩
  have HNN := Lib.hid hn
  rw [← hn] at hc
  have hni : (0 : Int) < (n : Int) := by omega
  clear h h1 h2 he hn
  go_enter Tryz.func84, Tryz.ntmps84
  go_upto_region 1 with (fail)
  refine Inv2.wp_region_inv (fun b a wy => ∃ (z : Nat → Value) (z17 : Value), a = ⟨#[.pointer (some ⟨A.b, 0, none⟩), undef, (z 2), (z 3), (z 4), (z 5), (z 6), (z 7), (z 8), (z 9), (z 10), (z 11), (z 12), (z 13), (z 14), (z 15), (z 16), z17, (z 18), (z 19), (z 20)], []⟩ ∧ Hid ((b 0 = true → (z 3) = .pointer (some ⟨A.b, 0, none⟩)) ∧ (b 1 = true → (z 4) = .pointer (some ⟨A.b, 0, none⟩)) ∧ (b 2 = true → (z 5) = .pointer (some ⟨A.b, 23, none⟩)) ∧ (b 3 = true → (z 6) = .agg (scells x.now).toArray) ∧ (b 4 = true → (z 7) = .pointer (some ⟨A.b, 0, none⟩)) ∧ (b 5 = true → (z 8) = .pointer (some ⟨A.b, 0, none⟩)) ∧ (b 6 = true → (z 9) = .pointer (some ⟨A.b, 5, none⟩)) ∧ (b 7 = true → (z 10) = .agg (scells x.kept).toArray) ∧ (b 8 = true → (z 11) = .bool false) ∧ (b 9 = true → (z 12) = .bool false) ∧ (b 10 = true → (z 13) = .pointer (some ⟨A.b, 0, none⟩)) ∧ (b 11 = true → (z 14) = .pointer (some ⟨A.b, 0, none⟩)) ∧ (b 12 = true → (z 15) = .pointer (some ⟨A.b, 1, none⟩)) ∧ (b 13 = true → (z 16) = .pointer (some ⟨A.ta, 0, none⟩)) ∧ (b 15 = true → (z 18) = .int .i64 (n : Int)) ∧ (b 16 = true → (z 19) = .bool true) ∧ (b 17 = true → (z 20) = .bool true) ∧ (b 18 = true → (z 2) = .bool true)) ∧ Hid (Below w.heap.size w wy) ∧ Hid (∃ AL c, (b 14 = true → z17 = .slice AL n c) ∧ (b 15 = true → b 14 = true))) (by kernel_rfl) (by kernel_rfl) ?startCc ?stepsCc ?doneCc
  case startCc =>
    intro b hb
    refine ⟨fun s => if s = 2 then .bool false else undef, undef, rfl, Lib.hid ⟨?_, ?_, ?_, ?_, ?_, ?_, ?_, ?_, ?_, ?_, ?_, ?_, ?_, ?_, ?_, ?_, ?_, ?_⟩, Lib.hid ((show Still w w.drew from ⟨rfl, rfl, rfl, rfl⟩).below _), Lib.hid (⟨none, 0, (fun e => by rw [hb _ (by decide)] at e; cases e), (fun e => by rw [hb _ (by decide)] at e; cases e)⟩)⟩
    all_goals (intro e; first | rfl | (rw [hb _ (by decide)] at e; cases e))
  case stepsCc =>
    refine ⟨?_, ?_, ?_, ?_, ?_, ?_, ?_, ?_, ?_, ?_, ?_, ?_, ?_, ?_, ?_, ?_, ?_, ?_, ?_, trivial⟩
    · rintro b a wy hb hd ⟨z, z17, rfl, HV, HW, HX⟩ K hK
      clear hd
      go_simp
      have V := HV.out
      exact hK _ _ ⟨fun s => if s = 3 then .pointer (some ⟨A.b, 0, none⟩) else z s, _, rfl, Lib.hid ⟨fun _ => rfl, V.2.1, V.2.2.1, V.2.2.2.1, V.2.2.2.2.1, V.2.2.2.2.2.1, V.2.2.2.2.2.2.1, V.2.2.2.2.2.2.2.1, V.2.2.2.2.2.2.2.2.1, V.2.2.2.2.2.2.2.2.2.1, V.2.2.2.2.2.2.2.2.2.2.1, V.2.2.2.2.2.2.2.2.2.2.2.1, V.2.2.2.2.2.2.2.2.2.2.2.2.1, V.2.2.2.2.2.2.2.2.2.2.2.2.2.1, V.2.2.2.2.2.2.2.2.2.2.2.2.2.2.1, V.2.2.2.2.2.2.2.2.2.2.2.2.2.2.2.1, V.2.2.2.2.2.2.2.2.2.2.2.2.2.2.2.2.1, V.2.2.2.2.2.2.2.2.2.2.2.2.2.2.2.2.2⟩, HW, HX⟩
    · rintro b a wy hb hd ⟨z, z17, rfl, HV, HW, HX⟩ K hK
      simp [Region.binds] at hd
      have e0 : (z 3) = .pointer (some ⟨A.b, 0, none⟩) := (HV.out.1) (by simp [hd])
      clear hd
      go_simp
      have V := HV.out
      exact hK _ _ ⟨fun s => if s = 4 then .pointer (some ⟨A.b, 0, none⟩) else if s = 3 then .pointer (some ⟨A.b, 0, none⟩) else z s, _, rfl, Lib.hid ⟨fun _ => rfl, fun _ => rfl, V.2.2.1, V.2.2.2.1, V.2.2.2.2.1, V.2.2.2.2.2.1, V.2.2.2.2.2.2.1, V.2.2.2.2.2.2.2.1, V.2.2.2.2.2.2.2.2.1, V.2.2.2.2.2.2.2.2.2.1, V.2.2.2.2.2.2.2.2.2.2.1, V.2.2.2.2.2.2.2.2.2.2.2.1, V.2.2.2.2.2.2.2.2.2.2.2.2.1, V.2.2.2.2.2.2.2.2.2.2.2.2.2.1, V.2.2.2.2.2.2.2.2.2.2.2.2.2.2.1, V.2.2.2.2.2.2.2.2.2.2.2.2.2.2.2.1, V.2.2.2.2.2.2.2.2.2.2.2.2.2.2.2.2.1, V.2.2.2.2.2.2.2.2.2.2.2.2.2.2.2.2.2⟩, HW, HX⟩
    · rintro b a wy hb hd ⟨z, z17, rfl, HV, HW, HX⟩ K hK
      simp [Region.binds] at hd
      have e1 : (z 4) = .pointer (some ⟨A.b, 0, none⟩) := (HV.out.2.1) (by simp [hd])
      clear hd
      go_simp
      have V := HV.out
      exact hK _ _ ⟨fun s => if s = 5 then .pointer (some ⟨A.b, 23, none⟩) else if s = 4 then .pointer (some ⟨A.b, 0, none⟩) else z s, _, rfl, Lib.hid ⟨V.1, fun _ => rfl, fun _ => rfl, V.2.2.2.1, V.2.2.2.2.1, V.2.2.2.2.2.1, V.2.2.2.2.2.2.1, V.2.2.2.2.2.2.2.1, V.2.2.2.2.2.2.2.2.1, V.2.2.2.2.2.2.2.2.2.1, V.2.2.2.2.2.2.2.2.2.2.1, V.2.2.2.2.2.2.2.2.2.2.2.1, V.2.2.2.2.2.2.2.2.2.2.2.2.1, V.2.2.2.2.2.2.2.2.2.2.2.2.2.1, V.2.2.2.2.2.2.2.2.2.2.2.2.2.2.1, V.2.2.2.2.2.2.2.2.2.2.2.2.2.2.2.1, V.2.2.2.2.2.2.2.2.2.2.2.2.2.2.2.2.1, V.2.2.2.2.2.2.2.2.2.2.2.2.2.2.2.2.2⟩, HW, HX⟩
    · rintro b a wy hb hd ⟨z, z17, rfl, HV, HW, HX⟩ K hK
      simp [Region.binds] at hd
      have e2 : (z 5) = .pointer (some ⟨A.b, 23, none⟩) := (HV.out.2.2.1) (by simp [hd])
      clear hd
      rw [e2]
      refine if_wanted (by rfl) (wp_load_mid 69 (.tmp 5) rfl A.b 23 rfl (scells x.now) _ (H.out.below HW.out).rn Tryz.underlying69 rfl (by rw [sup_size, Su.length_scells]) ?_)
      have V := HV.out
      exact hK _ _ ⟨fun s => if s = 6 then .agg (scells x.now).toArray else if s = 5 then .pointer (some ⟨A.b, 23, none⟩) else z s, _, rfl, Lib.hid ⟨V.1, V.2.1, fun _ => rfl, fun _ => rfl, V.2.2.2.2.1, V.2.2.2.2.2.1, V.2.2.2.2.2.2.1, V.2.2.2.2.2.2.2.1, V.2.2.2.2.2.2.2.2.1, V.2.2.2.2.2.2.2.2.2.1, V.2.2.2.2.2.2.2.2.2.2.1, V.2.2.2.2.2.2.2.2.2.2.2.1, V.2.2.2.2.2.2.2.2.2.2.2.2.1, V.2.2.2.2.2.2.2.2.2.2.2.2.2.1, V.2.2.2.2.2.2.2.2.2.2.2.2.2.2.1, V.2.2.2.2.2.2.2.2.2.2.2.2.2.2.2.1, V.2.2.2.2.2.2.2.2.2.2.2.2.2.2.2.2.1, V.2.2.2.2.2.2.2.2.2.2.2.2.2.2.2.2.2⟩, HW, HX⟩
    · rintro b a wy hb hd ⟨z, z17, rfl, HV, HW, HX⟩ K hK
      clear hd
      go_simp
      have V := HV.out
      exact hK _ _ ⟨fun s => if s = 7 then .pointer (some ⟨A.b, 0, none⟩) else z s, _, rfl, Lib.hid ⟨V.1, V.2.1, V.2.2.1, V.2.2.2.1, fun _ => rfl, V.2.2.2.2.2.1, V.2.2.2.2.2.2.1, V.2.2.2.2.2.2.2.1, V.2.2.2.2.2.2.2.2.1, V.2.2.2.2.2.2.2.2.2.1, V.2.2.2.2.2.2.2.2.2.2.1, V.2.2.2.2.2.2.2.2.2.2.2.1, V.2.2.2.2.2.2.2.2.2.2.2.2.1, V.2.2.2.2.2.2.2.2.2.2.2.2.2.1, V.2.2.2.2.2.2.2.2.2.2.2.2.2.2.1, V.2.2.2.2.2.2.2.2.2.2.2.2.2.2.2.1, V.2.2.2.2.2.2.2.2.2.2.2.2.2.2.2.2.1, V.2.2.2.2.2.2.2.2.2.2.2.2.2.2.2.2.2⟩, HW, HX⟩
    · rintro b a wy hb hd ⟨z, z17, rfl, HV, HW, HX⟩ K hK
      simp [Region.binds] at hd
      have e4 : (z 7) = .pointer (some ⟨A.b, 0, none⟩) := (HV.out.2.2.2.2.1) (by simp [hd])
      clear hd
      go_simp
      have V := HV.out
      exact hK _ _ ⟨fun s => if s = 8 then .pointer (some ⟨A.b, 0, none⟩) else if s = 7 then .pointer (some ⟨A.b, 0, none⟩) else z s, _, rfl, Lib.hid ⟨V.1, V.2.1, V.2.2.1, V.2.2.2.1, fun _ => rfl, fun _ => rfl, V.2.2.2.2.2.2.1, V.2.2.2.2.2.2.2.1, V.2.2.2.2.2.2.2.2.1, V.2.2.2.2.2.2.2.2.2.1, V.2.2.2.2.2.2.2.2.2.2.1, V.2.2.2.2.2.2.2.2.2.2.2.1, V.2.2.2.2.2.2.2.2.2.2.2.2.1, V.2.2.2.2.2.2.2.2.2.2.2.2.2.1, V.2.2.2.2.2.2.2.2.2.2.2.2.2.2.1, V.2.2.2.2.2.2.2.2.2.2.2.2.2.2.2.1, V.2.2.2.2.2.2.2.2.2.2.2.2.2.2.2.2.1, V.2.2.2.2.2.2.2.2.2.2.2.2.2.2.2.2.2⟩, HW, HX⟩
    · rintro b a wy hb hd ⟨z, z17, rfl, HV, HW, HX⟩ K hK
      simp [Region.binds] at hd
      have e5 : (z 8) = .pointer (some ⟨A.b, 0, none⟩) := (HV.out.2.2.2.2.2.1) (by simp [hd])
      clear hd
      go_simp
      have V := HV.out
      exact hK _ _ ⟨fun s => if s = 9 then .pointer (some ⟨A.b, 5, none⟩) else if s = 8 then .pointer (some ⟨A.b, 0, none⟩) else z s, _, rfl, Lib.hid ⟨V.1, V.2.1, V.2.2.1, V.2.2.2.1, V.2.2.2.2.1, fun _ => rfl, fun _ => rfl, V.2.2.2.2.2.2.2.1, V.2.2.2.2.2.2.2.2.1, V.2.2.2.2.2.2.2.2.2.1, V.2.2.2.2.2.2.2.2.2.2.1, V.2.2.2.2.2.2.2.2.2.2.2.1, V.2.2.2.2.2.2.2.2.2.2.2.2.1, V.2.2.2.2.2.2.2.2.2.2.2.2.2.1, V.2.2.2.2.2.2.2.2.2.2.2.2.2.2.1, V.2.2.2.2.2.2.2.2.2.2.2.2.2.2.2.1, V.2.2.2.2.2.2.2.2.2.2.2.2.2.2.2.2.1, V.2.2.2.2.2.2.2.2.2.2.2.2.2.2.2.2.2⟩, HW, HX⟩
    · rintro b a wy hb hd ⟨z, z17, rfl, HV, HW, HX⟩ K hK
      simp [Region.binds] at hd
      have e6 : (z 9) = .pointer (some ⟨A.b, 5, none⟩) := (HV.out.2.2.2.2.2.2.1) (by simp [hd])
      clear hd
      rw [e6]
      refine if_wanted (by rfl) (wp_load_mid 69 (.tmp 9) rfl A.b 5 rfl (scells x.kept) _ (H.out.below HW.out).rk Tryz.underlying69 rfl (by rw [sup_size, Su.length_scells]) ?_)
      have V := HV.out
      exact hK _ _ ⟨fun s => if s = 10 then .agg (scells x.kept).toArray else if s = 9 then .pointer (some ⟨A.b, 5, none⟩) else z s, _, rfl, Lib.hid ⟨V.1, V.2.1, V.2.2.1, V.2.2.2.1, V.2.2.2.2.1, V.2.2.2.2.2.1, fun _ => rfl, fun _ => rfl, V.2.2.2.2.2.2.2.2.1, V.2.2.2.2.2.2.2.2.2.1, V.2.2.2.2.2.2.2.2.2.2.1, V.2.2.2.2.2.2.2.2.2.2.2.1, V.2.2.2.2.2.2.2.2.2.2.2.2.1, V.2.2.2.2.2.2.2.2.2.2.2.2.2.1, V.2.2.2.2.2.2.2.2.2.2.2.2.2.2.1, V.2.2.2.2.2.2.2.2.2.2.2.2.2.2.2.1, V.2.2.2.2.2.2.2.2.2.2.2.2.2.2.2.2.1, V.2.2.2.2.2.2.2.2.2.2.2.2.2.2.2.2.2⟩, HW, HX⟩
    · rintro b a wy hb hd ⟨z, z17, rfl, HV, HW, HX⟩ K hK
      simp [Region.binds] at hd
      have e3 : (z 6) = .agg (scells x.now).toArray := (HV.out.2.2.2.1) (by simp [hd])
      have e7 : (z 10) = .agg (scells x.kept).toArray := (HV.out.2.2.2.2.2.2.2.1) (by simp [hd])
      clear hd
      rw [e3]
      rw [e7]
      refine if_wanted (by rfl) (Su.wp_neq_sup (.tmp 6) (.tmp 10) _ rfl x.now x.kept HO.out.1 HO.out.2 rfl rfl ?_)
      rw [HE.out]
      have V := HV.out
      exact hK _ _ ⟨fun s => if s = 11 then .bool false else if s = 6 then .agg (scells x.now).toArray else if s = 10 then .agg (scells x.kept).toArray else z s, _, rfl, Lib.hid ⟨V.1, V.2.1, V.2.2.1, fun _ => rfl, V.2.2.2.2.1, V.2.2.2.2.2.1, V.2.2.2.2.2.2.1, fun _ => rfl, fun _ => rfl, V.2.2.2.2.2.2.2.2.2.1, V.2.2.2.2.2.2.2.2.2.2.1, V.2.2.2.2.2.2.2.2.2.2.2.1, V.2.2.2.2.2.2.2.2.2.2.2.2.1, V.2.2.2.2.2.2.2.2.2.2.2.2.2.1, V.2.2.2.2.2.2.2.2.2.2.2.2.2.2.1, V.2.2.2.2.2.2.2.2.2.2.2.2.2.2.2.1, V.2.2.2.2.2.2.2.2.2.2.2.2.2.2.2.2.1, V.2.2.2.2.2.2.2.2.2.2.2.2.2.2.2.2.2⟩, HW, HX⟩
    · rintro b a wy hb hd ⟨z, z17, rfl, HV, HW, HX⟩ K hK
      simp [Region.binds] at hd
      have e8 : (z 11) = .bool false := (HV.out.2.2.2.2.2.2.2.2.1) (by simp [hd])
      clear hd
      go_simp
      have V := HV.out
      exact hK _ _ ⟨fun s => if s = 12 then .bool false else if s = 11 then .bool false else z s, _, rfl, Lib.hid ⟨V.1, V.2.1, V.2.2.1, V.2.2.2.1, V.2.2.2.2.1, V.2.2.2.2.2.1, V.2.2.2.2.2.2.1, V.2.2.2.2.2.2.2.1, fun _ => rfl, fun _ => rfl, V.2.2.2.2.2.2.2.2.2.2.1, V.2.2.2.2.2.2.2.2.2.2.2.1, V.2.2.2.2.2.2.2.2.2.2.2.2.1, V.2.2.2.2.2.2.2.2.2.2.2.2.2.1, V.2.2.2.2.2.2.2.2.2.2.2.2.2.2.1, V.2.2.2.2.2.2.2.2.2.2.2.2.2.2.2.1, V.2.2.2.2.2.2.2.2.2.2.2.2.2.2.2.2.1, V.2.2.2.2.2.2.2.2.2.2.2.2.2.2.2.2.2⟩, HW, HX⟩
    · rintro b a wy hb hd ⟨z, z17, rfl, HV, HW, HX⟩ K hK
      simp [Region.binds] at hd
      have e9 : (z 12) = .bool false := (HV.out.2.2.2.2.2.2.2.2.2.1) (by simp [hd])
      clear hd
      go_simp
      have V := HV.out
      exact hK _ _ ⟨fun s => if s = 13 then .pointer (some ⟨A.b, 0, none⟩) else if s = 12 then .bool false else z s, _, rfl, Lib.hid ⟨V.1, V.2.1, V.2.2.1, V.2.2.2.1, V.2.2.2.2.1, V.2.2.2.2.2.1, V.2.2.2.2.2.2.1, V.2.2.2.2.2.2.2.1, V.2.2.2.2.2.2.2.2.1, fun _ => rfl, fun _ => rfl, V.2.2.2.2.2.2.2.2.2.2.2.1, V.2.2.2.2.2.2.2.2.2.2.2.2.1, V.2.2.2.2.2.2.2.2.2.2.2.2.2.1, V.2.2.2.2.2.2.2.2.2.2.2.2.2.2.1, V.2.2.2.2.2.2.2.2.2.2.2.2.2.2.2.1, V.2.2.2.2.2.2.2.2.2.2.2.2.2.2.2.2.1, V.2.2.2.2.2.2.2.2.2.2.2.2.2.2.2.2.2⟩, HW, HX⟩
    · rintro b a wy hb hd ⟨z, z17, rfl, HV, HW, HX⟩ K hK
      simp [Region.binds] at hd
      have e9 : (z 12) = .bool false := (HV.out.2.2.2.2.2.2.2.2.2.1) (by simp [hd])
      have e10 : (z 13) = .pointer (some ⟨A.b, 0, none⟩) := (HV.out.2.2.2.2.2.2.2.2.2.2.1) (by simp [hd])
      clear hd
      go_simp
      have V := HV.out
      exact hK _ _ ⟨fun s => if s = 14 then .pointer (some ⟨A.b, 0, none⟩) else if s = 12 then .bool false else if s = 13 then .pointer (some ⟨A.b, 0, none⟩) else z s, _, rfl, Lib.hid ⟨V.1, V.2.1, V.2.2.1, V.2.2.2.1, V.2.2.2.2.1, V.2.2.2.2.2.1, V.2.2.2.2.2.2.1, V.2.2.2.2.2.2.2.1, V.2.2.2.2.2.2.2.2.1, fun _ => rfl, fun _ => rfl, fun _ => rfl, V.2.2.2.2.2.2.2.2.2.2.2.2.1, V.2.2.2.2.2.2.2.2.2.2.2.2.2.1, V.2.2.2.2.2.2.2.2.2.2.2.2.2.2.1, V.2.2.2.2.2.2.2.2.2.2.2.2.2.2.2.1, V.2.2.2.2.2.2.2.2.2.2.2.2.2.2.2.2.1, V.2.2.2.2.2.2.2.2.2.2.2.2.2.2.2.2.2⟩, HW, HX⟩
    · rintro b a wy hb hd ⟨z, z17, rfl, HV, HW, HX⟩ K hK
      simp [Region.binds] at hd
      have e9 : (z 12) = .bool false := (HV.out.2.2.2.2.2.2.2.2.2.1) (by simp [hd])
      have e11 : (z 14) = .pointer (some ⟨A.b, 0, none⟩) := (HV.out.2.2.2.2.2.2.2.2.2.2.2.1) (by simp [hd])
      clear hd
      go_simp
      have V := HV.out
      exact hK _ _ ⟨fun s => if s = 15 then .pointer (some ⟨A.b, 1, none⟩) else if s = 12 then .bool false else if s = 14 then .pointer (some ⟨A.b, 0, none⟩) else z s, _, rfl, Lib.hid ⟨V.1, V.2.1, V.2.2.1, V.2.2.2.1, V.2.2.2.2.1, V.2.2.2.2.2.1, V.2.2.2.2.2.2.1, V.2.2.2.2.2.2.2.1, V.2.2.2.2.2.2.2.2.1, fun _ => rfl, V.2.2.2.2.2.2.2.2.2.2.1, fun _ => rfl, fun _ => rfl, V.2.2.2.2.2.2.2.2.2.2.2.2.2.1, V.2.2.2.2.2.2.2.2.2.2.2.2.2.2.1, V.2.2.2.2.2.2.2.2.2.2.2.2.2.2.2.1, V.2.2.2.2.2.2.2.2.2.2.2.2.2.2.2.2.1, V.2.2.2.2.2.2.2.2.2.2.2.2.2.2.2.2.2⟩, HW, HX⟩
    · rintro b a wy hb hd ⟨z, z17, rfl, HV, HW, HX⟩ K hK
      simp [Region.binds] at hd
      have e9 : (z 12) = .bool false := (HV.out.2.2.2.2.2.2.2.2.2.1) (by simp [hd])
      have e12 : (z 15) = .pointer (some ⟨A.b, 1, none⟩) := (HV.out.2.2.2.2.2.2.2.2.2.2.2.2.1) (by simp [hd])
      clear hd
      have cc := (H.out.below HW.out).c1
      go_simp
      have V := HV.out
      exact hK _ _ ⟨fun s => if s = 16 then .pointer (some ⟨A.ta, 0, none⟩) else if s = 12 then .bool false else if s = 15 then .pointer (some ⟨A.b, 1, none⟩) else z s, _, rfl, Lib.hid ⟨V.1, V.2.1, V.2.2.1, V.2.2.2.1, V.2.2.2.2.1, V.2.2.2.2.2.1, V.2.2.2.2.2.2.1, V.2.2.2.2.2.2.2.1, V.2.2.2.2.2.2.2.2.1, fun _ => rfl, V.2.2.2.2.2.2.2.2.2.2.1, V.2.2.2.2.2.2.2.2.2.2.2.1, fun _ => rfl, fun _ => rfl, V.2.2.2.2.2.2.2.2.2.2.2.2.2.2.1, V.2.2.2.2.2.2.2.2.2.2.2.2.2.2.2.1, V.2.2.2.2.2.2.2.2.2.2.2.2.2.2.2.2.1, V.2.2.2.2.2.2.2.2.2.2.2.2.2.2.2.2.2⟩, HW, HX⟩
    · rintro b a wy hb hd ⟨z, z17, rfl, HV, HW, HX⟩ K hK
      simp [Region.binds] at hd
      have e9 : (z 12) = .bool false := (HV.out.2.2.2.2.2.2.2.2.2.1) (by simp [hd])
      have e13 : (z 16) = .pointer (some ⟨A.ta, 0, none⟩) := (HV.out.2.2.2.2.2.2.2.2.2.2.2.2.2.1) (by simp [hd])
      clear hd
      go_simp
      go_at_call 145
      refine (Tl.list_at (H.out.below HW.out).pat.tally).mono ?_
      rintro e wz ⟨v, rfl, ⟨AL, c, rfl, _⟩, kz⟩
      try go_simp
      have V := HV.out
      exact hK _ _ ⟨fun s => if s = 12 then .bool false else if s = 16 then .pointer (some ⟨A.ta, 0, none⟩) else z s, _, rfl, Lib.hid ⟨V.1, V.2.1, V.2.2.1, V.2.2.2.1, V.2.2.2.2.1, V.2.2.2.2.2.1, V.2.2.2.2.2.2.1, V.2.2.2.2.2.2.2.1, V.2.2.2.2.2.2.2.2.1, fun _ => rfl, V.2.2.2.2.2.2.2.2.2.2.1, V.2.2.2.2.2.2.2.2.2.2.2.1, V.2.2.2.2.2.2.2.2.2.2.2.2.1, fun _ => rfl, V.2.2.2.2.2.2.2.2.2.2.2.2.2.2.1, V.2.2.2.2.2.2.2.2.2.2.2.2.2.2.2.1, V.2.2.2.2.2.2.2.2.2.2.2.2.2.2.2.2.1, V.2.2.2.2.2.2.2.2.2.2.2.2.2.2.2.2.2⟩, Lib.hid (HW.out.trans (kz.mono HW.out.size)), Lib.hid ⟨AL, c, fun _ => by rw [HNN.out], fun e => (let ⟨_, _, _, q⟩ := HX.out; absurd (hb.symm.trans (q e)) (by decide))⟩⟩
    · rintro b a wy hb hd ⟨z, z17, rfl, HV, HW, HX⟩ K hK
      simp [Region.binds] at hd
      have e9 : (z 12) = .bool false := (HV.out.2.2.2.2.2.2.2.2.2.1) (by simp [hd])
      have dd14 : b 14 = true := by simp [hd]
      clear hd
      obtain ⟨AL, c, x1, x2⟩ := HX.out
      have zz := x1 dd14
      subst zz
      go_simp
      have V := HV.out
      exact hK _ _ ⟨fun s => if s = 18 then .int .i64 (n : Int) else if s = 12 then .bool false else z s, _, rfl, Lib.hid ⟨V.1, V.2.1, V.2.2.1, V.2.2.2.1, V.2.2.2.2.1, V.2.2.2.2.2.1, V.2.2.2.2.2.2.1, V.2.2.2.2.2.2.2.1, V.2.2.2.2.2.2.2.2.1, fun _ => rfl, V.2.2.2.2.2.2.2.2.2.2.1, V.2.2.2.2.2.2.2.2.2.2.2.1, V.2.2.2.2.2.2.2.2.2.2.2.2.1, V.2.2.2.2.2.2.2.2.2.2.2.2.2.1, fun _ => rfl, V.2.2.2.2.2.2.2.2.2.2.2.2.2.2.2.1, V.2.2.2.2.2.2.2.2.2.2.2.2.2.2.2.2.1, V.2.2.2.2.2.2.2.2.2.2.2.2.2.2.2.2.2⟩, HW, Lib.hid ⟨AL, c, fun _ => rfl, fun _ => dd14⟩⟩
    · rintro b a wy hb hd ⟨z, z17, rfl, HV, HW, HX⟩ K hK
      simp [Region.binds] at hd
      have e9 : (z 12) = .bool false := (HV.out.2.2.2.2.2.2.2.2.2.1) (by simp [hd])
      have e15 : (z 18) = .int .i64 (n : Int) := (HV.out.2.2.2.2.2.2.2.2.2.2.2.2.2.2.1) (by simp [hd])
      clear hd
      go_simp
      have V := HV.out
      exact hK _ _ ⟨fun s => if s = 19 then .bool true else if s = 12 then .bool false else if s = 18 then .int .i64 (n : Int) else z s, _, rfl, Lib.hid ⟨V.1, V.2.1, V.2.2.1, V.2.2.2.1, V.2.2.2.2.1, V.2.2.2.2.2.1, V.2.2.2.2.2.2.1, V.2.2.2.2.2.2.2.1, V.2.2.2.2.2.2.2.2.1, fun _ => rfl, V.2.2.2.2.2.2.2.2.2.2.1, V.2.2.2.2.2.2.2.2.2.2.2.1, V.2.2.2.2.2.2.2.2.2.2.2.2.1, V.2.2.2.2.2.2.2.2.2.2.2.2.2.1, fun _ => rfl, fun _ => rfl, V.2.2.2.2.2.2.2.2.2.2.2.2.2.2.2.2.1, V.2.2.2.2.2.2.2.2.2.2.2.2.2.2.2.2.2⟩, HW, HX⟩
    · rintro b a wy hb hd ⟨z, z17, rfl, HV, HW, HX⟩ K hK
      simp [Region.binds] at hd
      have e9 : (z 12) = .bool false := (HV.out.2.2.2.2.2.2.2.2.2.1) (by simp [hd])
      have e16 : (z 19) = .bool true := (HV.out.2.2.2.2.2.2.2.2.2.2.2.2.2.2.2.1) (by simp [hd])
      clear hd
      go_simp
      have V := HV.out
      exact hK _ _ ⟨fun s => if s = 20 then .bool true else if s = 12 then .bool false else if s = 19 then .bool true else z s, _, rfl, Lib.hid ⟨V.1, V.2.1, V.2.2.1, V.2.2.2.1, V.2.2.2.2.1, V.2.2.2.2.2.1, V.2.2.2.2.2.2.1, V.2.2.2.2.2.2.2.1, V.2.2.2.2.2.2.2.2.1, fun _ => rfl, V.2.2.2.2.2.2.2.2.2.2.1, V.2.2.2.2.2.2.2.2.2.2.2.1, V.2.2.2.2.2.2.2.2.2.2.2.2.1, V.2.2.2.2.2.2.2.2.2.2.2.2.2.1, V.2.2.2.2.2.2.2.2.2.2.2.2.2.2.1, fun _ => rfl, fun _ => rfl, V.2.2.2.2.2.2.2.2.2.2.2.2.2.2.2.2.2⟩, HW, HX⟩
    · rintro b a wy hb hd ⟨z, z17, rfl, HV, HW, HX⟩ K hK
      simp [Region.binds] at hd
      have e17 : (z 20) = .bool true := (HV.out.2.2.2.2.2.2.2.2.2.2.2.2.2.2.2.2.1) (by simp [hd])
      clear hd
      go_simp
      have V := HV.out
      exact hK _ _ ⟨fun s => if s = 2 then .bool true else if s = 20 then .bool true else z s, _, rfl, Lib.hid ⟨V.1, V.2.1, V.2.2.1, V.2.2.2.1, V.2.2.2.2.1, V.2.2.2.2.2.1, V.2.2.2.2.2.2.1, V.2.2.2.2.2.2.2.1, V.2.2.2.2.2.2.2.2.1, V.2.2.2.2.2.2.2.2.2.1, V.2.2.2.2.2.2.2.2.2.2.1, V.2.2.2.2.2.2.2.2.2.2.2.1, V.2.2.2.2.2.2.2.2.2.2.2.2.1, V.2.2.2.2.2.2.2.2.2.2.2.2.2.1, V.2.2.2.2.2.2.2.2.2.2.2.2.2.2.1, V.2.2.2.2.2.2.2.2.2.2.2.2.2.2.2.1, fun _ => rfl, fun _ => rfl⟩, HW, HX⟩
  case doneCc =>
    rintro b a wy hb ⟨z, z17, rfl, HV, HW, HX⟩
    have e0 := (HV.out.1) (hb 0)
    have e1 := (HV.out.2.1) (hb 1)
    have e2 := (HV.out.2.2.1) (hb 2)
    have e3 := (HV.out.2.2.2.1) (hb 3)
    have e4 := (HV.out.2.2.2.2.1) (hb 4)
    have e5 := (HV.out.2.2.2.2.2.1) (hb 5)
    have e6 := (HV.out.2.2.2.2.2.2.1) (hb 6)
    have e7 := (HV.out.2.2.2.2.2.2.2.1) (hb 7)
    have e8 := (HV.out.2.2.2.2.2.2.2.2.1) (hb 8)
    have e9 := (HV.out.2.2.2.2.2.2.2.2.2.1) (hb 9)
    have e10 := (HV.out.2.2.2.2.2.2.2.2.2.2.1) (hb 10)
    have e11 := (HV.out.2.2.2.2.2.2.2.2.2.2.2.1) (hb 11)
    have e12 := (HV.out.2.2.2.2.2.2.2.2.2.2.2.2.1) (hb 12)
    have e13 := (HV.out.2.2.2.2.2.2.2.2.2.2.2.2.2.1) (hb 13)
    have e15 := (HV.out.2.2.2.2.2.2.2.2.2.2.2.2.2.2.1) (hb 15)
    have e16 := (HV.out.2.2.2.2.2.2.2.2.2.2.2.2.2.2.2.1) (hb 16)
    have e17 := (HV.out.2.2.2.2.2.2.2.2.2.2.2.2.2.2.2.2.1) (hb 17)
    have e18 := (HV.out.2.2.2.2.2.2.2.2.2.2.2.2.2.2.2.2.2) (hb 18)
    simp only [e0, e1, e2, e3, e4, e5, e6, e7, e8, e9, e10, e11, e12, e13, e15, e16, e17, e18]
    clear HV e0 e1 e2 e3 e4 e5 e6 e7 e8 e9 e10 e11 e12 e13 e15 e16 e17 e18
    clear HX
    go_wp2_with fail
    go_ret
    exact ⟨rfl, HW.out⟩

end Go.Proofs.YtogchamogbendaaGreat.Bs
/- Calls with a disk that is none. -/
namespace Go.Proofs.YtogchamogbendaaGreat.Bs
set_option maxRecDepth 100000
open Go.RowKit Go.Proofs.YtogchamogbendaaGreat.Oct Go.Proofs.YtogchamogbendaaGreat.Mv Go.Proofs.YtogchamogbendaaGreat.Tl Go.Proofs.YtogchamogbendaaGreat.Pk Go.Proofs.YtogchamogbendaaGreat.Pl Go.Maps Go.ChangeMaps
open Go.Proofs.YtogchamogbendaaGreat.Dsk (dT)
open Go.Proofs.YtogchamogbendaaGreat.Su (Sup nth scells scell zero18)
set_option linter.unusedVariables false
set_option linter.unusedSimpArgs false

end Go.Proofs.YtogchamogbendaaGreat.Bs
/- Mathematics: what is done to a base keeps it good; a base that was formatted, and one that is opened anew. -/
namespace Go.Proofs.YtogchamogbendaaGreat.Bs
set_option maxRecDepth 100000
open Go.RowKit Go.Proofs.YtogchamogbendaaGreat.Oct Go.Proofs.YtogchamogbendaaGreat.Mv Go.Proofs.YtogchamogbendaaGreat.Tl Go.Proofs.YtogchamogbendaaGreat.Pk Go.Proofs.YtogchamogbendaaGreat.Pl Go.Maps Go.ChangeMaps
open Go.Proofs.YtogchamogbendaaGreat.Dsk (dT)
open Go.Proofs.YtogchamogbendaaGreat.Su (Sup nth scells scell psup perr pslot zero18)
set_option linter.unusedVariables false
set_option linter.unusedSimpArgs false

section
variable {x : BS} {y : Wk}
theorem Good.put (h : Good x) {b : Nat} (hb : x.q.Found b) {bs : List UInt8} (hr : need x.n < x.q.room) (hl : bs.length = 128) : Good (x.put b bs) := by
  have hn : (x.put b bs).n = x.n := n_took _ _
  have hlo := hb.lo h.sd.ok
  rw [h.sd.first] at hlo
  have hrt := room_took h.sd.ok hb
  have hf := hb.2.1
  refine ⟨h.sd.took hb, by rw [hn]; exact h.lo, by rw [hn]; exact h.hi, ?_, by rw [hn]; exact h.dn, h.calm, h.lok, h.still, h.nok, h.nfit, h.kok, h.kfit, by rw [hn]; exact h.n1, h.gen, h.root, fun i ks hk => ?_, h.opens, h.slot⟩
  · rw [hn]
    show need x.n ≤ (x.q.took b).room
    omega
  · have hk' : (if i = b then some bs else x.fr i) = some ks := hk
    by_cases e : i = b
    · subst e
      rw [if_pos rfl] at hk'
      have hw : x.q.s.was i = 0 := by unfold Tl.St.free at hf; simp at hf; exact hf.2
      refine ⟨hlo, by rw [hn]; exact hb.1, hw, ?_, by rw [← Option.some.inj hk']; exact hl⟩
      show (x.q.took i).s.cnt i ≠ 0
      rw [cnt_took hb]
      decide
    · rw [if_neg e] at hk'
      obtain ⟨k1, k2, k3, k4, k5⟩ := h.fr i ks hk'
      refine ⟨k1, by rw [hn]; exact k2, k3, ?_, k5⟩
      show (x.q.s.put b _).cnt i ≠ 0
      rw [cnt_put hb.1, if_neg e]
      exact k4
theorem Good.over (h : Good x) {b : Nat} (hb : (x.fr b).isSome = true) {bs : List UInt8} (hl : bs.length = 128) : Good (x.over b bs) := by
  obtain ⟨old, ho⟩ := Option.isSome_iff_exists.1 hb
  refine ⟨h.sd, h.lo, h.hi, h.room, h.dn, h.calm, h.lok, h.still, h.nok, h.nfit, h.kok, h.kfit, h.n1, h.gen, h.root, fun i ks hk => ?_, h.opens, h.slot⟩
  have hk' : (if i = b then some bs else x.fr i) = some ks := hk
  by_cases e : i = b
  · subst e
    rw [if_pos rfl] at hk'
    obtain ⟨k1, k2, k3, k4, _⟩ := h.fr i old ho
    exact ⟨k1, k2, k3, k4, by rw [← Option.some.inj hk']; exact hl⟩
  · rw [if_neg e] at hk'
    exact h.fr i ks hk'
theorem cnt_n (x : BS) (i : Nat) (c : UInt16) : (x.cnt i c).n = x.n := n_put _ _ _
theorem cnt_free_eq (x : BS) {i : Nat} (hi : i < x.n) {c : UInt16} (hc : c ≠ 0 ∨ x.q.s.was i ≠ 0) (h0 : x.q.s.cnt i ≠ 0) (j : Nat) : (x.cnt i c).q.s.free j = x.q.s.free j := by
  show (x.q.s.put i c).free j = _
  unfold Tl.St.free
  rw [cnt_put hi, was_put]
  by_cases e : j = i
  · subst e
    rw [if_pos rfl]
    have a : (x.q.s.cnt j == 0) = false := by simpa using h0
    rw [a]
    rcases hc with hc | hc
    · have b : (c == 0) = false := by simpa using hc
      rw [b]
    · have b : (x.q.s.was j == 0) = false := by simpa using hc
      rw [b]; simp
  · rw [if_neg e]
theorem cnt_room_eq (x : BS) {i : Nat} (hi : i < x.n) {c : UInt16} (hc : c ≠ 0 ∨ x.q.s.was i ≠ 0) (h0 : x.q.s.cnt i ≠ 0) : (x.cnt i c).q.room = x.q.room := by
  show St.count (x.cnt i c).q.s x.q.first ((x.cnt i c).n - x.q.first) = _
  rw [cnt_n]
  unfold St.count
  rw [show (x.cnt i c).q.s.free = x.q.s.free from funext fun j => cnt_free_eq x hi hc h0 j]
  rfl
theorem cnt_room_le (x : BS) {i : Nat} (hi : i < x.n) (c : UInt16) (h0 : x.q.s.cnt i ≠ 0) : x.q.room ≤ (x.cnt i c).q.room := by
  show x.q.room ≤ St.count (x.cnt i c).q.s x.q.first ((x.cnt i c).n - x.q.first)
  rw [cnt_n]
  refine count_mono _ _ fun j hj => ?_
  show (x.q.s.put i c).free j = true
  unfold Tl.St.free at hj ⊢
  rw [cnt_put hi, was_put]
  by_cases e : j = i
  · subst e
    have a : (x.q.s.cnt j == 0) = false := by simpa using h0
    rw [a] at hj
    cases hj
  · rw [if_neg e]; exact hj
theorem Good.may (h : Good x) {i : Nat} (h2 : 2 ≤ i) (hi : i < x.n) (hn : i ∉ x.l1 ++ x.l2) (hc : x.q.s.cnt i ≠ 0) : x.May i :=
  ⟨h.n1, h2, hi, fun k => hn (List.mem_append_left _ k), fun k => hn (List.mem_append_right _ k), hc, by rw [h.sd.len1]; have := h.hi; unfold BS.n at this; unfold pg; omega, by have := h.len2; omega⟩
theorem May.no {i : Nat} (h : x.May i) : i ∉ x.l1 ++ x.l2 := fun k => (List.mem_append.1 k).elim h.one h.two
theorem Good.cnt (h : Good x) {i : Nat} (hm : x.May i) {c : UInt16} (hc : c ≠ 0) : Good (x.cnt i c) := by
  have hn := cnt_n x i c
  refine ⟨h.sd.put hm.hi (May.no hm) c, by rw [hn]; exact h.lo, by rw [hn]; exact h.hi, by rw [hn]; exact Nat.le_trans h.room (cnt_room_le x hm.hi c hm.cnt), by rw [hn]; exact h.dn, h.calm, h.lok, h.still, h.nok, h.nfit, h.kok, h.kfit, by rw [hn]; exact h.n1, h.gen, h.root, fun j ks hk => ?_, h.opens, h.slot⟩
  obtain ⟨k1, k2, k3, k4, k5⟩ := h.fr j ks hk
  refine ⟨k1, by rw [hn]; exact k2, k3, ?_, k5⟩
  show (x.q.s.put i c).cnt j ≠ 0
  rw [cnt_put hm.hi]
  split
  · exact hc
  · exact k4
theorem u16_up {c : UInt16} (h : c ≠ 65535) : c + 1 ≠ 0 := by
  intro e
  have : (c + 1).toNat = 0 := by rw [e]; rfl
  rw [UInt16.toNat_add] at this
  have h2 := c.toNat_lt
  have h3 : c.toNat ≠ 65535 := fun k => h (by rw [← UInt16.toNat_inj]; exact k)
  have : (1 : UInt16).toNat = 1 := rfl
  omega
theorem u16_down {c : UInt16} (h : c ≠ 1) (h0 : c ≠ 0) : c - 1 ≠ 0 := by
  intro e
  apply h
  have : c = c - 1 + 1 := by simp
  rw [this, e]
  rfl
theorem Good.up (h : Good x) {i : Nat} (hm : x.May i) (hx : x.q.s.cnt i ≠ 65535) : Good (x.up i) := h.cnt hm (u16_up hx)
theorem Good.down (h : Good x) {i : Nat} (hm : x.May i) : Good (x.down i) := by
  unfold BS.down
  by_cases e : x.q.s.cnt i = 1
  · rw [if_pos e]
    have hn := cnt_n x i 0
    refine ⟨h.sd.put hm.hi (May.no hm) 0, by show 16 ≤ (x.cnt i 0).n; rw [hn]; exact h.lo, by show (x.cnt i 0).n ≤ 4096; rw [hn]; exact h.hi, by show need (x.cnt i 0).n ≤ _; rw [hn]; exact Nat.le_trans h.room (cnt_room_le x hm.hi 0 hm.cnt), by show x.D.n = (x.cnt i 0).n; rw [hn]; exact h.dn, h.calm, h.lok, h.still, h.nok, h.nfit, h.kok, h.kfit, by show nth x.now 1 = (x.cnt i 0).n; rw [hn]; exact h.n1, h.gen, h.root, fun j ks hk => ?_, h.opens, h.slot⟩
    have hk' : (if j = i then none else x.fr j) = some ks := hk
    by_cases ej : j = i
    · rw [if_pos ej] at hk'; cases hk'
    · rw [if_neg ej] at hk'
      obtain ⟨k1, k2, k3, k4, k5⟩ := h.fr j ks hk'
      refine ⟨k1, by show j < (x.cnt i 0).n; rw [hn]; exact k2, k3, ?_, k5⟩
      show (x.q.s.put i 0).cnt j ≠ 0
      rw [cnt_put hm.hi, if_neg ej]
      exact k4
  · rw [if_neg e]
    exact h.cnt hm (u16_down e hm.cnt)
theorem Good.setN (h : Good x) {j v : Nat} (hj : 4 ≤ j) (hj2 : j < 18) (hv : v < 18446744073709551616) (hv2 : j < 10 → v < x.n) : Good (x.setN (x.now.set j v)) := by
  have hi := h.hi
  have e : ∀ k, nth (x.now.set j v) k = if k = j then v else nth x.now k := fun k => set_nth h.nok.len j v k hj2
  obtain ⟨f0, f1, f2, f3⟩ := h.nfit
  refine ⟨h.sd, h.lo, h.hi, h.room, h.dn, h.calm, h.lok, h.still, set_ok h.nok j v hj2 hv (fun _ k => by have := hv2 k; omega), ⟨by show 1 ≤ nth (x.now.set j v) 0; rw [e, if_neg (by omega)]; exact f0, by show 16 ≤ nth (x.now.set j v) 1; rw [e, if_neg (by omega)]; exact f1, by show nth (x.now.set j v) 1 ≤ 4096; rw [e, if_neg (by omega)]; exact f2, fun i k => ?_⟩, h.kok, h.kfit, by show nth (x.now.set j v) 1 = x.n; rw [e, if_neg (by omega)]; exact h.n1, by show nth (x.now.set j v) 0 = nth x.kept 0; rw [e, if_neg (by omega)]; exact h.gen, fun k hk => by show nth (x.now.set j v) (2 + k) = x.l2.getD k 0; rw [e, if_neg (by omega)]; exact h.root k hk, h.fr, h.opens, h.slot⟩
  show nth (x.now.set j v) (2 + i) < nth (x.now.set j v) 1
  rw [e, e, if_neg (show ¬ 1 = j by omega)]
  split
  · rw [h.n1]; exact hv2 (by omega)
  · exact f3 i k
theorem Good.setroot (h : Good x) {i k : Nat} (h2 : 2 ≤ i) (hi : i < 8) (hk : k < x.n) : Good (x.root i k) := h.setN (by omega) (by omega) (by have := h.hi; omega) (fun _ => hk)
/-- Where all counts are as they were kept, whichever block pick asks first. -/
theorem sound_kept (h : Good x) {nx ak : Nat} (h1 : 2 ≤ nx) (h2 : nx < x.n ∨ nx = 2) (h3 : ak ≤ x.n) : Sound ⟨Tl.St.of x.q.s.kept, 2, nx, ak⟩ x.l1 x.l2 := by
  have hw := h.nw
  have hlo := h.lo
  refine ⟨⟨.of (by omega) (by have := h.hi; omega), by show 2 ≤ x.q.s.kept.length; omega, h1, by show nx < x.q.s.kept.length ∨ nx = 2; omega, by show ak ≤ x.q.s.kept.length; omega⟩, rfl, by show x.l1.length = pg x.q.s.kept.length; rw [hw]; exact h.sd.len1, by show x.l2.length = pg (pg x.q.s.kept.length); rw [hw]; exact h.sd.len2, fun i hi => ?_, h.sd.ne⟩
  obtain ⟨k1, k2, k3, k4⟩ := h.sd.one i hi
  exact ⟨k1, by show _ < x.q.s.kept.length; rw [hw]; exact k2, k4, k4⟩
theorem kept_room (h : Good x) (nx ak : Nat) : x.q.room ≤ Q.room ⟨Tl.St.of x.q.s.kept, 2, nx, ak⟩ := by
  show St.count x.q.s x.q.first (x.q.s.n - x.q.first) ≤ St.count (Tl.St.of x.q.s.kept) 2 (x.q.s.kept.length - 2)
  rw [h.nw, h.sd.first]
  refine count_mono _ _ fun j hj => ?_
  unfold Tl.St.free at hj ⊢
  have := (Bool.and_eq_true _ _ ▸ hj).2
  show (x.q.s.kept.getD j 0 == 0 && x.q.s.kept.getD j 0 == 0) = true
  rw [show x.q.s.kept.getD j 0 = x.q.s.was j from rfl, this]
  rfl
theorem good_kept (h : Good x) {nx ak : Nat} (h1 : 2 ≤ nx) (h2 : nx < x.n ∨ nx = 2) (h3 : ak ≤ x.n) : Good ⟨⟨Tl.St.of x.q.s.kept, 2, nx, ak⟩, x.l1, x.l2, x.kept, x.kept, fun _ => none, x.D⟩ := by
  have hw := h.nw
  have hnn : (⟨⟨Tl.St.of x.q.s.kept, 2, nx, ak⟩, x.l1, x.l2, x.kept, x.kept, fun _ => none, x.D⟩ : BS).n = x.n := hw
  have k1 : nth x.kept 1 = x.n := by rw [h.opens.n, h.dn]
  exact ⟨sound_kept h h1 h2 h3, by rw [hnn]; exact h.lo, by rw [hnn]; exact h.hi, by rw [hnn]; exact Nat.le_trans h.room (kept_room h nx ak), by rw [hnn]; exact h.dn, h.calm, h.lok, h.still, h.kok, h.kfit, h.kok, h.kfit, by rw [hnn]; exact k1, rfl, h.opens.pages.root, fun i ks e => (by cases e), h.opens, h.slot⟩
theorem Good.back (h : Good x) : Good x.back := by
  have hn := h.sd.ok.next
  have hl := h.sd.ok.le
  have ha := h.sd.ok.asked
  have hf := h.sd.first
  have e : x.back = ⟨⟨Tl.St.of x.q.s.kept, 2, x.q.next, x.q.asked⟩, x.l1, x.l2, x.kept, x.kept, fun _ => none, x.D⟩ := by unfold BS.back; rw [hf]; rfl
  rw [e]
  exact good_kept h (by omega) (by rw [hf] at hn; exact hn) ha
/-- Opened anew. -/
def BS.anew (x : BS) : BS := opened x.D x.kept x.l1 x.l2 x.q.s.kept
theorem Good.anew (h : Good x) : Good x.anew := good_kept h (Nat.le_refl _) (.inr rfl) (Nat.zero_le _)
end
/-- A base that was formatted, and opened. -/
theorem made_good {n : Nat} {y : Wk} (h1 : 16 ≤ n) (h2 : n ≤ 400) (hr : Begun0 n y) : Good (made0 n y) := by
  obtain ⟨hs, hyn, hask, hc1⟩ := sound0 h1 h2 hr
  obtain ⟨hroom, hn⟩ := made_room h1 h2 hr
  have hf := fmtY h1 h2 hr
  have hl2 : y.l2.length ≤ 2 := by rw [hf.len2]; unfold pg; omega
  have hop := format_opens h1 h2 hr (calm_fresh n) (lok_fresh n) rfl
  have hal := doSteps_all (fmtSteps n y) (Dsk.fresh n) (calm_fresh n)
  have hlt32 : ∀ x ∈ y.l2, x < 4294967296 := fun x hx => by have := hf.lt2 x hx; omega
  have hsok := sup0_ok (n := n) (by omega) hl2 hlt32
  have hsfit := sup0_fit h1 (by omega) hl2 hf.lt2
  have hs18 : (sup0 n).length = 18 := by simp [sup0]
  have hgen : nth (leadS (sup0 n) y.l2) 0 = 1 := by rw [leadS_low hs18 0 (by omega)]; rfl
  have hblk : nth (leadS (sup0 n) y.l2) 1 = n := by rw [leadS_low hs18 1 (by omega)]; rfl
  have hnd : need n + need n ≤ n - 2 := by
    unfold need pg
    omega
  refine ⟨⟨⟨hs.ok.s, by show 2 ≤ y.q.s.n; omega, Nat.le_refl _, .inr rfl, Nat.zero_le _⟩, rfl, hs.len1, hs.len2, hs.one, hs.ne⟩, by rw [hn]; exact h1, by rw [hn]; omega, by rw [hn]; omega, by rw [hn]; exact hal.1, hal.2.1, ?_, ?_, hsok, hsfit, hsok, hsfit, by rw [hn]; exact hblk, rfl, hop.pages.root, fun i bs e => (by cases e), hop, ?_⟩
  · have hfit : ∀ t ∈ fmtSteps n y, Stp.fit (Dsk.fresh n).n t := fun t ht => by
      have hlt := fmt_ok hf h1 t ht
      cases t with
      | f => trivial
      | w p bs =>
        refine ⟨hlt, ?_⟩
        unfold fmtSteps at ht
        rcases List.mem_append.1 ht with ht | ht
        · rcases List.mem_append.1 ht with ht | ht
          · simp [z128] at ht
            rcases ht with ⟨_, rfl⟩ | ⟨_, rfl⟩ <;> simp
          · rcases List.mem_append.1 ht with ht | ht
            · unfold cntSteps at ht
              obtain ⟨i, _, e⟩ := List.mem_map.1 ht
              injection e with _ e
              rw [← e]
              exact Ix.length_idxPage _ _ (part_le _ _)
            · unfold dirSteps at ht
              obtain ⟨i, _, e⟩ := List.mem_map.1 ht
              injection e with _ e
              rw [← e]
              exact Ix.length_idxPage _ _ (by rw [length_dirW]; omega)
        · unfold finSteps at ht
          simp at ht
          rw [ht.2]
          exact Su.length_supPage _
    exact (says_steps (fmtSteps n y) (Dsk.fresh n) (calm_fresh n) (lok_fresh n) hfit).1
  · show (doSteps (Dsk.fresh n) (fmtSteps n y)).W = []
    have : fmtSteps n y = ([.w 0 z128, .w 1 z128, .f] ++ (cntSteps y.q.s y.l1 (doneL y.f1) ++ dirSteps y.l1 y.l2 (doneL y.f2)) ++ [.f, .w (nth (leadS (sup0 n) y.l2) 0 % 2) (Su.supPage (leadS (sup0 n) y.l2))]) ++ [.f] := by
      unfold fmtSteps finSteps
      simp only [List.append_assoc, List.cons_append, List.nil_append]
    rw [this]
    exact steps_still _ _
  · show (doSteps (Dsk.fresh n) (fmtSteps n y)).says (nth (leadS (sup0 n) y.l2) 0 % 2) = Su.supPage (leadS (sup0 n) y.l2)
    obtain ⟨p1, p2⟩ := hop.pick
    rw [hgen]
    show (doSteps (Dsk.fresh n) (fmtSteps n y)).says 1 = _
    unfold psup at p1
    unfold perr at p2
    by_cases hl : Su.Later ((doSteps (Dsk.fresh n) (fmtSteps n y)).says 0) ((doSteps (Dsk.fresh n) (fmtSteps n y)).says 1)
    · rw [if_pos hl] at p1
      rw [← p1]
      exact hl.1.1.2.2.2.symm
    · rw [if_neg hl] at p1 p2
      by_cases hc : Su.Counts 0 ((doSteps (Dsk.fresh n) (fmtSteps n y)).says 0)
      · rw [if_pos hc] at p1
        have := hc.2
        rw [p1, hgen] at this
        exact absurd this (by decide)
      · rw [if_neg hc] at p2
        exact absurd p2 (by decide)
end Go.Proofs.YtogchamogbendaaGreat.Bs
