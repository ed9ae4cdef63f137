/- Which blocks have changed. -/
import Derived.Test.YtlemjegngnfanaaTlG
import Derived.Test.YtlemjegngnfanaaIt
namespace Go.Proofs.Ytlemjegngnfanaa.Tl
open Go.RowKit Go.Proofs.Ytlemjegngnfanaa.Oct Go.Proofs.Ytlemjegngnfanaa.Mv Go.Maps Go.Sort Go.Shelf
set_option linter.unusedVariables false

theorem sortsIn (m : Nat) : AnyZI.SortsIn Try.prog It.sortedA_ren Fence.wide m :=
  ⟨fun blk off cap ss W hH hblk hsz => callsIn_wide.2 (AnyM.slices_Sort_int It.sortA blk off cap ss W hH hblk hsz),
   fun p cap W => callsIn_wide.2 (AnyM.slices_Sort_int_none It.sortA p cap W)⟩
/-- Numbers as values. -/
def ints (l : List Nat) : List Value := l.map fun i : Nat => .int .i64 (i : Int)
theorem length_ints (l : List Nat) : (ints l).length = l.length := by simp [ints]
/-- A slice of these numbers. -/
def List64 (w : World) (v : Value) (l : List Nat) : Prop := ∃ A cap, v = .slice A l.length cap ∧ ToldV w A (ints l)
theorem sorted_changed (s : St) {ss : List Int} (h : ss.Perm (s.changed.map fun i : Nat => (i : Int))) : ss.mergeSort (fun x y => decide (x ≤ y)) = s.changed.map fun i : Nat => (i : Int) := by
  have h2 := mergeSort_of_perm_i h
  have h3 : (s.changed.map fun i : Nat => (i : Int)).mergeSort leI = s.changed.map fun i : Nat => (i : Int) := by
    refine List.mergeSort_of_pairwise (List.pairwise_map.2 (List.Pairwise.imp (fun {a b} (h : a < b) => ?_) (List.pairwise_lt_range.filter _)))
    simp [leI]
    omega
  exact h2.trans h3
set_option maxRecDepth 100000 in
set_option maxHeartbeats 1000000 in
theorem list_at {w : World} {a cb mb c : Nat} {s : St} (h : At w a cb mb c s) :
    Calls Try.prog 30 #[.pointer (some ⟨a, 0, none⟩)] w fun e w' => ∃ v, e = .returned v ∧ List64 w' v s.changed ∧ Below w.heap.size w w' := by
  obtain ⟨D0, hown, hsays⟩ := h.mp.own h.ok
  have HP := Lib.hid (changed_perm hown hsays h.ok)
  have hsize := size_changed hown hsays h.ok
  have hfew := few_changed h.ok
  have hmax : Maps.size D0 ≤ maxLen := by unfold maxLen; omega
  have hbytes : Maps.size D0 * 8 ≤ 140737488355328 := by omega
  have hbl := hown.lt
  have c1 := h.c1
  have c2 := h.c2
  clear h hsays hsize hfew
  refine (callsIn_wide (n := 6)).1 ?_
  have hseq : SeqGives Fence.wide 2 Try.prog 66 #[.pointer (some ⟨w.heap.size, 0, none⟩)] encZ (fun ss => ss.Perm (intKeys D0)) (Maps.size D0) (w.alloc (.cells #[.map (some mb)] 78)) :=
    AnyZI.keys_gives (ρ := It.keysA_ren) { It.keysA with } Fence.wide _ trivial rfl (by omega) w.heap.size mb 4096 D0 _ (by simp) (by simp) (by
      obtain ⟨es, clock, hb, Ft, hs, hD⟩ := hown
      exact ⟨es, clock, (Below.heap_alloc _ _ mb hbl).trans hb, Ft, hs, hD⟩)
  have cK : ∀ mb W, CallsIn Fence.wide 5 Try.prog 53 #[.map mb] W fun e w' => e = .returned (.func (.func 66) #[] #[.pointer (some ⟨W.heap.size, 0, none⟩)]) ∧ w' = W.alloc (.cells #[.map mb] 78) := fun mb W => AnyZI.keys_in It.keysA Fence.wide 5 trivial rfl mb W
  have cS := AnyZI.sorted_in It.sortedA Fence.wide 5 trivial trivial trivial trivial rfl (by omega) (sortsIn _) (enters_of Try.func65 (by kernel_rfl) rfl) 66 #[.pointer (some ⟨w.heap.size, 0, none⟩)] trivial (enters_of Try.func66 (by kernel_rfl) rfl) _ _ hmax hbytes _ hseq
  change CallsIn _ _ Try.prog 52 _ _ _ at cS
  have cM : CallsIn Fence.wide 5 Try.prog 43 #[.pointer (some ⟨a, 0, none⟩)] w fun e w' => e = .returned (.bool true) ∧ w = w' := callsIn_wide.2 (made_self a w c2)
  have hfK : Fence.wide.fn 53 := trivial
  have hfS : Fence.wide.fn 52 := trivial
  have hfM : Fence.wide.fn 43 := trivial
  refine callsIn_of_wp Try.func30 rfl trivial ?_ rfl
  simp only [Try.ntmps30, List.size_toArray, List.length_cons, List.length_nil, Nat.reduceAdd, Nat.reduceSub, Array.replicate_succ, Array.replicate_zero, List.push_toArray, List.append_toArray, List.nil_append, List.cons_append]
  gi_wp2_with (first
    | (gi_at_call 43; refine cM.mono ?_; rintro e w' ⟨rfl, rfl⟩)
    | (gi_at_call 53; refine (cK _ _).mono ?_; rintro e w' ⟨rfl, rfl⟩)
    | (gi_at_call 52; refine cS.mono ?_; rintro e w' ⟨v, ss, rfl, hS, hrow, hnil, hb⟩))
  go_ret
  have hP := hS.trans HP.out.symm
  have hL := sorted_changed s hP
  have hlen : ss.length = s.changed.length := by rw [hP.length_eq, List.length_map]
  rw [hL, hlen] at hrow
  refine ⟨v, rfl, ?_, ((Below.refl _ w).alloc (Nat.le_refl _) _).trans (hb.mono (by simp))⟩
  rcases hrow.2 with ⟨rfl, h0⟩ | ⟨g, cap, cur, rfl, hbb, hg, hn, hm, hs, ht⟩
  · have hz : s.changed.length = 0 := by simpa using h0
    exact ⟨none, 0, by rw [hz], .inl (by simp [ints, List.eq_nil_of_length_eq_zero hz])⟩
  · refine ⟨_, cap, rfl, .inr ⟨g, 0, rfl, fun i hi => ?_⟩⟩
    rw [length_ints] at hi
    rw [Nat.zero_add, World.ownsRow.cellAt hrow i (by simpa using hi)]
    simp [ints, hi, encZ]
theorem list_nay (v : Value) (w : World) (h : Nay w v) :
    Calls Try.prog 30 #[v] w fun e w' => e = .returned (.slice none 0 0) ∧ w = w' := by
  go_enter Try.func30, Try.ntmps30
  go_wp2_with fail
  refine (made_nay v _ h).mono ?_
  rintro e w' ⟨rfl, rfl⟩
  go_wp2_with fail
  go_ret
  exact ⟨rfl, rfl⟩
end Go.Proofs.Ytlemjegngnfanaa.Tl

