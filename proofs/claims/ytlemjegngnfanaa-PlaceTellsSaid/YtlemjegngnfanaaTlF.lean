/- The counts are kept, go back. -/
import Derived.Test.YtlemjegngnfanaaTlE
namespace Go.Proofs.Ytlemjegngnfanaa.Tl
open Go.RowKit Go.Proofs.Ytlemjegngnfanaa.Oct Go.Proofs.Ytlemjegngnfanaa.Mv Go.Maps Go.ChangeMaps
set_option linter.unusedVariables false

theorem run_clear {w : World} {mb nn : Nat} {D : DataW Unit} (h : w.ownsMap Try.prog 3 (plainElem Try.prog 22) mb nn D) :
    ∃ w', (∀ ty, (Builtin.clear_ #[78] ty #[.map (some mb)]).run Try.prog w = .ok (.tuple #[]) w') ∧ w'.ownsMap Try.prog 3 (plainElem (H := Unit) Try.prog 22) mb 0 (.map []) ∧ w.mapTurned w' mb := by
  obtain ⟨es, clock, hb, F, hs, rfl⟩ := h
  refine ⟨setBlock w mb (.map #[] clock), fun ty => ?_, ⟨#[], clock, heap_setBlock_same hb _, ⟨by simp, MapKept.stamped_empty clock, by simp⟩, Nat.le_refl _, rfl⟩, ⟨es, clock, #[], clock, hb, rfl⟩⟩
  simp [Builtin.clear_, run_underlying Try.underlying78, MapKept.run_getObj_map hb, MapKept.run_setObj_map _ hb, Result.andThen, setBlock]

/-! ### Keep -/
set_option maxRecDepth 100000 in
theorem keep_at {w : World} {a cb mb c : Nat} {s : St} (h : At w a cb mb c s) :
    Calls Try.prog 20 #[.pointer (some ⟨a, 0, none⟩)] w fun e w' => e = .returned (.tuple #[]) ∧ At w' a cb mb c s.keep ∧ But w w' cb mb := by
  obtain ⟨D, ho, hs⟩ := h.mp.own h.ok
  obtain ⟨w1, hcl, ho1, ht⟩ := run_clear ho
  have HO := Lib.hid ho1
  have HT := Lib.hid ht.grown
  have HH := Lib.hid h
  have c1 := h.c1
  have c2 := h.c2
  clear h ho hs ho1 ht
  go_enter Try.func20, Try.ntmps20
  go_wp2_with fail
  refine (made_self a _ c2).mono ?_
  rintro e w' ⟨rfl, rfl⟩
  go_wp2_with fail
  go_end0
  obtain ⟨sp, hn⟩ := HH.out.nums
  refine ⟨rfl, ⟨HH.out.row.block (HT.out.block a HH.out.row.lt (fun e => HH.out.a_mb (by cases e; rfl))), ⟨sp, hn.block (HT.out.block cb hn.lt (fun e => HH.out.cb_mb (by cases e; rfl)))⟩, ⟨0, _, HO.out, says_none _⟩, HH.out.ok.keep, HH.out.room, HH.out.ne⟩, .grown HT.out⟩
theorem keep_nay (v : Value) (w : World) (h : Nay w v) :
    Calls Try.prog 20 #[v] w fun e w' => e = .returned (.tuple #[]) ∧ w = w' := by
  go_enter Try.func20, Try.ntmps20
  go_wp2_with fail
  refine (made_nay v _ h).mono ?_
  rintro e w' ⟨rfl, rfl⟩
  go_wp2_with fail
  go_end0
  exact ⟨rfl, rfl⟩

/-! ### Back -/
/-- The counts, as far as a loop over the map has come: of which entries are still to come. -/
def St.mixed (s : St) (left : Lit → Bool) : St := ⟨(List.range s.n).map fun i => if s.moved i && !left (key i) then s.was i else s.cnt i, s.kept⟩
theorem n_mixed (s : St) (left : Lit → Bool) : (s.mixed left).n = s.n := by simp [St.mixed, St.n]
theorem cnt_mixed (s : St) (left : Lit → Bool) {i : Nat} (hi : i < s.n) : (s.mixed left).cnt i = if s.moved i && !left (key i) then s.was i else s.cnt i := by
  unfold St.cnt St.mixed
  simp [hi, St.cnt]
theorem st_ext {s t : St} (hn : s.n = t.n) (hc : ∀ i, i < s.n → s.cnt i = t.cnt i) : s.now = t.now := by
  unfold St.n at hn hc
  refine List.ext_getElem hn fun i h1 h2 => ?_
  have := hc i h1
  unfold St.cnt at this
  simpa [h1, h2] using this
theorem mixed_start {s : St} {D : DataW Unit} (h : Says D s) : (s.mixed (Maps.has D)).now = s.now := by
  refine st_ext (n_mixed _ _) fun i hi => ?_
  rw [n_mixed] at hi
  rw [cnt_mixed _ _ hi, h.hasKey]
  cases s.moved i <;> simp
theorem mixed_step (s : St) (left : Lit → Bool) {j : Nat} (hj : j < s.n) (hm : s.moved j = true) : (s.mixed fun z => left z && !z.sameKey (key j)).now = ((s.mixed left).put j (s.was j)).now := by
  refine st_ext (by rw [n_put, n_mixed, n_mixed]) fun i hi => ?_
  rw [n_mixed] at hi
  rw [cnt_mixed _ _ hi, cnt_put (by rw [n_mixed]; exact hj), cnt_mixed _ _ hi]
  by_cases e : i = j
  · subst e
    have : (key i).sameKey (key i) = true := by simp [key, Lit.sameKey]
    simp [hm, this]
  · have : (key i).sameKey (key j) = false := sameKey_ne (fun e' => e (key_inj e'))
    rw [if_neg e, this]
    simp
theorem mixed_end {s : St} (hok : s.Ok) (left : Lit → Bool) (h : ∀ k, left k = false) : (s.mixed left).now = s.kept := by
  have hn : s.kept.length = s.n := hok.len
  refine List.ext_getElem (by rw [hn]; exact n_mixed s left) fun i h1 h2 => ?_
  have hi : i < s.n := by omega
  have hc := cnt_mixed s left hi
  have e1 : (s.mixed left).now[i] = (s.mixed left).cnt i := by unfold St.cnt; simp [h1]
  have e2 : s.kept[i] = s.was i := by unfold St.was; simp [h2]
  rw [e1, e2, hc, h]
  cases hm : s.moved i
  · unfold St.moved at hm
    simpa using hm
  · simp
theorem grown_set (w : World) (p i : Nat) (v : Value) : w.grownBy (w.setCell ⟨p, i, none⟩ v) (some p) := ⟨rfl, rfl, rfl, by simp, fun k _ hp => heap_setCell_other _ _ _ _ (fun e => hp (by rw [e]))⟩
end Go.Proofs.Ytlemjegngnfanaa.Tl

