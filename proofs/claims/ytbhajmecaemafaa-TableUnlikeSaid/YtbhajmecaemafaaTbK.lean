/- Which of a row of numbers is there twice, as far as two loops have come. Slices of bytes that stand beside pairs. No function of the program is named. -/
import Derived.Test.YtbhajmecaemafaaTbJ
namespace Go.Proofs.Ytbhajmecaemafaa.Tb
open Go.RowKit Go.Proofs.Ytbhajmecaemafaa.Oct
set_option linter.unusedVariables false
set_option linter.unusedSimpArgs false

def dupB (F : List UInt64) (i k : Nat) : Bool := decide (¬ (F.take i).Nodup ∨ F.getD i 0 ∈ F.take k)
theorem dup_zero (F : List UInt64) : dupB F 0 0 = false := by simp [dupB]
theorem take_step (F : List UInt64) {k : Nat} (h : k < F.length) : F.take (k + 1) = F.take k ++ [F.getD k 0] := by
  rw [List.take_add_one]
  simp [List.getD, h]
theorem dup_step (F : List UInt64) (i : Nat) {k : Nat} (h : k < F.length) : dupB F i (k + 1) = (dupB F i k || decide (F.getD i 0 = F.getD k 0)) := by
  unfold dupB
  rw [take_step F h, Bool.eq_iff_iff]
  simp only [Bool.or_eq_true, decide_eq_true_eq, List.mem_append, List.mem_singleton]
  exact or_assoc.symm
theorem dup_next (F : List UInt64) {i : Nat} (h : i < F.length) : dupB F (i + 1) 0 = dupB F i i := by
  unfold dupB
  rw [take_step F h, Bool.eq_iff_iff]
  simp only [decide_eq_true_eq, List.take_zero, List.not_mem_nil, or_false]
  have : (F.take i ++ [F.getD i 0]).Nodup ↔ (F.take i).Nodup ∧ F.getD i 0 ∉ F.take i := by
    rw [List.nodup_append]
    constructor
    · rintro ⟨h1, _, h3⟩
      exact ⟨h1, fun k => h3 _ k _ (by simp) rfl⟩
    · rintro ⟨h1, h2⟩
      refine ⟨h1, by simp, fun a ha b hb e => ?_⟩
      obtain rfl : b = F.getD i 0 := by simpa using hb
      exact h2 (e ▸ ha)
  rw [this]
  by_cases h1 : (F.take i).Nodup <;> by_cases h2 : F.getD i 0 ∈ F.take i <;> simp [h1, h2]
theorem dup_end (F : List UInt64) {n : Nat} (h : F.length = n) : dupB F n 0 = !decide F.Nodup := by
  subst h
  unfold dupB
  simp
def Pair.part (p : Pair) : Part := ⟨p.A, p.n, p.c, p.bs⟩
def fps (l : List Pair) (rest : UInt64) : List UInt64 := rest :: (tells l).map (·.2)
theorem length_fps (l : List Pair) (rest : UInt64) : (fps l rest).length = l.length + 1 := by simp [fps, tells]
theorem dup_unlike (l : List Pair) (rest : UInt64) {n : Nat} (h : l.length = n) : dupB (fps l rest) (n + 1) 0 = !unlike (tells l) rest :=
  dup_end _ (by rw [length_fps, h])
def blks (x : Part) (l : List Pair) : List Part := x :: l.map Pair.part
theorem length_blks (x : Part) (l : List Pair) : (blks x l).length = l.length + 1 := by simp [blks]
theorem blks_pout {l : List Pair} {rest : UInt64} {x : Part} (hg : Good (tells l)) (hx : x.bs.length = 128) (hn : ∀ p ∈ l, p.bs ≠ x.bs) (i : Nat) (hi : i < (blks x l).length) : pout (tells l) rest (blks x l)[i].bs = ((fps l rest).getD i 0, 0) := by
  rcases i with _ | i
  · have : seek (tells l) x.bs = none := seek_none fun hm => by
      obtain ⟨q, hq, he⟩ := List.mem_map.1 hm
      obtain ⟨p, hp, rfl⟩ := List.mem_map.1 hq
      exact hn p hp he
    show pout (tells l) rest x.bs = _
    unfold pout printOf
    rw [if_pos hx, this]
    rfl
  · rw [length_blks] at hi
    have hi' : i < l.length := by omega
    have h1 : (blks x l)[i + 1].bs = l[i].tell.1 := by simp [blks, Pair.part, Pair.tell]
    have h2 : (fps l rest).getD (i + 1) 0 = l[i].tell.2 := by simp [fps, tells, List.getD, hi']
    rw [h1, h2]
    exact pout_own hg (List.mem_map_of_mem (List.getElem_mem hi')) rest
theorem blks_take (x : Part) (l : List Pair) {k : Nat} (h : k < l.length) : blks x (l.take (k + 1)) = blks x (l.take k) ++ [l[k].part] := by
  unfold blks
  rw [List.take_add_one, List.getElem?_eq_getElem h, List.map_append]
  rfl
theorem blks_ok {w : World} {l : List Pair} {x : Part} (hx : x.Ok w) (h : ∀ p ∈ l, p.Ok w) : ∀ p ∈ blks x l, p.Ok w := by
  intro p hp
  rcases List.mem_cons.1 hp with rfl | hp
  · exact hx
  · obtain ⟨q, hq, rfl⟩ := List.mem_map.1 hp
    exact ⟨(h q hq).len, (h q hq).told, (h q hq).le⟩
end Go.Proofs.Ytbhajmecaemafaa.Tb
