/- Several texts in one: FdA FdB. (Written by bin/prune.py.) -/
import Derived.Deep.Onto
import Derived.Test.YtogchamogbendaaGreatQbs
/- Layer 13: a base that catchmentlaw13's Base makes. -/
namespace Go.Proofs.YtogchamogbendaaGreat.Bs
set_option maxRecDepth 100000
open Go.RowKit Go.Proofs.YtogchamogbendaaGreat.Oct Go.Proofs.YtogchamogbendaaGreat.Mv Go.Proofs.YtogchamogbendaaGreat.Tl Go.Proofs.YtogchamogbendaaGreat.Pk Go.Proofs.YtogchamogbendaaGreat.Pl Go.Maps Go.ChangeMaps
open Go.Proofs.YtogchamogbendaaGreat.Dsk (dT)
set_option linter.unusedVariables false
set_option linter.unusedSimpArgs false

/-- A disk that was made, with all that was there ahead of it protected. -/
theorem dnew (n : Nat) (h0 : 16 ≤ n) (h1 : n ≤ 4096) (w : World) :
    Calls Tryz.prog 45 #[.int .i64 (n : Int)] w fun e w' => ∃ a, e = .returned (.tuple #[.pointer (some ⟨a, 0, none⟩), .int .i64 0]) ∧ DIs (fun k => k < w.heap.size) w' a (Dsk.fresh n) ∧ Below w.heap.size w w' :=
  (Dsk.new_ok n h0 h1 w).mono fun e w' ⟨a, bb, he, ha, hb⟩ => ⟨a, he, ⟨bb, n, .slice none 0 0, ⟨Nat.zero_le _, ha.head, ha.blocks.mono (Nat.zero_le _), ha.waits.mono (Nat.zero_le _), ha.ok⟩, Nat.not_lt.2 ha.lo, Nat.not_lt.2 (World.ownsRow.lt ha.blocks bb rfl).1, fun k hk => by cases hk⟩, hb⟩
theorem calm_fresh (n : Nat) : Calm (Dsk.fresh n) := ⟨rfl, rfl⟩
theorem lok_fresh (n : Nat) : Lok (Dsk.fresh n) := ⟨by show (List.replicate (n * 128) (0 : UInt8)).length = n * 128; exact List.length_replicate, fun x hx => by cases hx⟩
/-- A base as it is made, y the way its pages were placed. -/
def made0 (n : Nat) (y : Wk) : BS := opened (doSteps (Dsk.fresh n) (fmtSteps n y)) (leadS (sup0 n) y.l2) y.l1 y.l2 y.q.s.now
def Begun0 (n : Nat) (y : Wk) : Prop := (Pl.begin (q0 n) (zeros (pg n)) (zeros (pg (pg n)))).Runs y

end Go.Proofs.YtogchamogbendaaGreat.Bs
/- Layer 13: how much room a base has that was made; what stays of a base that is fed. -/
namespace Go.Proofs.YtogchamogbendaaGreat.Bs
set_option maxRecDepth 100000
open Go.RowKit Go.Proofs.YtogchamogbendaaGreat.Oct Go.Proofs.YtogchamogbendaaGreat.Mv Go.Proofs.YtogchamogbendaaGreat.Tl Go.Proofs.YtogchamogbendaaGreat.Pk Go.Proofs.YtogchamogbendaaGreat.Pl Go.Maps Go.ChangeMaps
open Go.Proofs.YtogchamogbendaaGreat.Dsk (dT)
open Go.Proofs.YtogchamogbendaaGreat.Su (Sup nth)
set_option linter.unusedVariables false
set_option linter.unusedSimpArgs false

theorem moved_zero {q q' : Q} {b : Nat} (h : Moved q 0 q' b) (hok : q.Ok) : q.room = q'.room + 1 := by
  obtain ⟨h1, rfl⟩ := h
  have e : down1 q 0 = q := rfl
  rw [e] at h1 ⊢
  exact room_took hok h1
theorem step_room {x y : Wk} {q0 : Q} {L0 : List Nat} (h : x.Step y) (hg : x.Good) (hri : x.RI q0 L0) (hz : ∀ i, L0.getD i 0 = 0) : x.q.room = y.q.room + 1 := by
  cases h with
  | one i b q' k1 k2 =>
    obtain ⟨hi, hf, _⟩ := k1.ask
    have := (hri.un i (by rw [List.length_append]; omega) (by rw [getD_app1 _ _ _ (by rw [hg.fl1]; exact hi)]; exact hf)).1
    rw [getD_app1 _ _ _ hi, hz] at this
    rw [this] at k2
    exact moved_zero k2 hg.ok
  | two i b q' k0 k1 k2 =>
    obtain ⟨hi, hf, _⟩ := k1.ask
    have := (hri.un (x.l1.length + i) (by rw [List.length_append]; omega) (by rw [← hg.fl1, getD_app2]; exact hf)).1
    rw [getD_app2, hz] at this
    rw [this] at k2
    exact moved_zero k2 hg.ok
theorem runs_room {x y : Wk} {q0 : Q} {L0 : List Nat} (h : x.Runs y) (hg : x.Good) (hb : Pl.Base q0 L0) (hri : x.RI q0 L0) (hz : ∀ i, L0.getD i 0 = 0) : x.q.room + y.left = y.q.room + x.left := by
  induction h with
  | done _ => rfl
  | step s r ih =>
    have k1 := ih (hg.step s) (s.ri hg hb hri)
    have k2 := step_room s hg hri hz
    have k3 := hg.less s
    omega
theorem made_room {n : Nat} {y : Wk} (h1 : 16 ≤ n) (h2 : n ≤ 400) (hr : Begun0 n y) : (made0 n y).q.room + need n = n - 2 ∧ (made0 n y).n = n := by
  obtain ⟨hs, hyn, _, _⟩ := sound0 h1 h2 hr
  have hg := q0_good h1 h2
  have hb : Pl.Base (q0 n) (zeros (pg n) ++ zeros (pg (pg n))) := ⟨fun i _ h => absurd (by rw [zeros_app, zeros_get]) h, by show 1 ≤ 2; omega⟩
  have hri := begin_ri (q := q0 n) (l1 := zeros (pg n)) (l2 := zeros (pg (pg n))) (fun i _ h => absurd (by rw [zeros_app, zeros_get]) h)
  have hr2 := hr.ri hg hb hri
  have key := runs_room hr hg hb hri (fun i => by rw [zeros_app, zeros_get])
  have hlen : (y.f1 ++ y.f2).length = (y.l1 ++ y.l2).length := hr2.lenF
  have hyl : y.left = 0 := by
    show (y.f1 ++ y.f2).countP (fun x => !x) = 0
    rw [List.countP_eq_zero]
    intro x hx
    obtain ⟨i, hi, rfl⟩ := List.mem_iff_getElem.1 hx
    have e : (y.f1 ++ y.f2).getD i false = (y.f1 ++ y.f2)[i] := by rw [List.getD_eq_getElem?_getD, List.getElem?_eq_getElem hi]; rfl
    rcases Bool.eq_false_or_eq_true ((y.f1 ++ y.f2)[i]) with k | k
    · rw [k]; decide
    · have hu := (hr2.un i (by omega) (by rw [e]; exact k)).1
      rw [zeros_app, zeros_get] at hu
      exact absurd hu (hs.one i (by omega)).1
  have hxl : (Pl.begin (q0 n) (zeros (pg n)) (zeros (pg (pg n)))).left = need n := by
    show Pl.left (List.replicate (zeros (pg n)).length false ++ List.replicate (zeros (pg (pg n))).length false) = need n
    rw [left_rep]
    simp [zeros, need]
  have hq0 : (Pl.begin (q0 n) (zeros (pg n)) (zeros (pg (pg n)))).q.room = n - 2 := by show (q0 n).room = n - 2; unfold q0; rw [new_room]
  have hfree : ∀ j, (Tl.St.of y.q.s.now).free j = y.q.s.free j := fun j => by
    have hw : y.q.s.was j = 0 := by
      rw [hr2.was j]
      show (List.replicate n (0 : UInt16)).getD j 0 = 0
      simp only [List.getD_eq_getElem?_getD, List.getElem?_replicate]
      split <;> rfl
    unfold Tl.St.free
    rw [hw]
    show (y.q.s.now.getD j 0 == 0 && y.q.s.now.getD j 0 == 0) = (y.q.s.now.getD j 0 == 0 && (0 : UInt16) == 0)
    cases (y.q.s.now.getD j 0 == 0) <;> rfl
  have hroom : (made0 n y).q.room = y.q.room := by
    show St.count (Tl.St.of y.q.s.now) 2 (y.q.s.now.length - 2) = St.count y.q.s y.q.first (y.q.s.n - y.q.first)
    rw [show y.q.first = 2 from hs.first]
    unfold St.count
    rw [show (Tl.St.of y.q.s.now).free = y.q.s.free from funext hfree]
    rfl
  refine ⟨?_, hyn⟩
  rw [hroom]
  omega
/-- A base of n blocks to which only Put and Over were done since it was opened. -/
structure Fed (n : Nat) (x : BS) : Prop where
  ok : x.q.Ok
  xn : x.n = n
  blk : nth x.now 1 = n
  lo : 16 ≤ n
  hi : n ≤ 400
  dn : x.D.n = n
  gone : x.D.gone = false
  first : x.q.first = 2
  fr : ∀ b bs, x.fr b = some bs → 2 ≤ b ∧ b < n ∧ x.q.s.cnt b ≠ 0 ∧ bs.length = 128
theorem made_fed {n : Nat} {y : Wk} (h1 : 16 ≤ n) (h2 : n ≤ 400) (hr : Begun0 n y) : Fed n (made0 n y) := by
  obtain ⟨hs, hyn, _, _⟩ := sound0 h1 h2 hr
  have hl2 : y.l2.length ≤ 2 := by rw [(fmtY h1 h2 hr).len2]; unfold pg; omega
  have hal := doSteps_all (fmtSteps n y) (Dsk.fresh n) (calm_fresh n)
  exact ⟨⟨hs.ok.s, by show 2 ≤ y.q.s.n; omega, Nat.le_refl _, .inr rfl, Nat.zero_le _⟩, hyn, by show nth (leadS (sup0 n) y.l2) 1 = n; rw [leadS_low (by simp [sup0]) 1 (by omega)]; rfl, h1, h2, hal.1, hal.2.1.gone, rfl, fun b bs h => by cases h⟩
end Go.Proofs.YtogchamogbendaaGreat.Bs
