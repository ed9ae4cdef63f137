/- The same inside a fence: a region that draws its order, walked by an invariant. No function of the program is named. -/
import Derived.Test.YtkhimoclikhlaaaInv
import Derived.OrdersIn
import Derived.RegionIn
namespace Go.Proofs.Ytkhimoclikhlaaa.InvIn
open Go.RowKit
set_option linter.unusedVariables false

section
variable {F : Fence} {n : Nat} {P : Program} {md : Region.Mode} {ops : Array Oper} {Q : Exit → Act → World → Prop}
/-- One operation keeps the invariant, whenever it may come up. -/
def Step (F : Fence) (n : Nat) (P : Program) (md : Region.Mode) (ops : Array Oper) (Q : Exit → Act → World → Prop) (J : (Nat → Bool) → Act → World → Prop) (i : Nat) (o : Oper) : Prop :=
  ∀ (b : Nat → Bool) (a : Act) (w : World), b i = false → (o.after.all fun e => !Region.binds md e || b e.on) = true → J b a w → ∀ K : Act → World → Prop, (∀ a w, J (Inv.mark b i) a w → K a w) →
    if Region.wanted o (yielded ops a.tmps) = true then Oper.wpIn F n P o a w K Q else (∀ f, o.about P w a.eval = some f → F.fn f) ∧ K (a.put o.dst undef) w
theorem wpAnyIn_inv (J : (Nat → Bool) → Act → World → Prop) (hb : Inv.backB 0 ops.toList = true) (hstep : Inv.Steps (Step F n P md ops Q J) 0 ops.toList)
    (hdone : ∀ b a w, (∀ i, b i = true) → J b a w → Q .normal a w) : ∀ (fuel : Nat) (listed : Array Bool) (a : Act) (w : World), listed.size = ops.size → (listed.toList.filter fun x => !x).length ≤ fuel → J (Inv.seen listed) a w → wpAnyIn F n P md ops Q fuel listed a w := by
  intro fuel
  induction fuel with
  | zero =>
    intro listed a w hs hf hJ
    have hall : ∀ i, Inv.seen listed i = true := by
      intro i
      unfold Inv.seen
      by_cases hi : i < listed.size
      · have h0 : (listed.toList.filter fun x => !x) = [] := List.eq_nil_of_length_eq_zero (by omega)
        rw [List.filter_eq_nil_iff] at h0
        have := h0 listed[i] (by simp)
        simp [hi]
        simpa using this
      · simp [hi]
    refine ⟨?_, hdone _ _ _ hall hJ⟩
    unfold Region.ready
    rw [List.filter_eq_nil_iff]
    intro i _
    have := hall i
    unfold Inv.seen at this
    simp [this]
  | succ fuel ih =>
    intro listed a w hs hf hJ
    refine ⟨fun hr => hdone _ _ _ (Inv.ready_nil hs hb hr) hJ, fun i hi => ?_⟩
    unfold Region.ready at hi
    rw [List.mem_filter] at hi
    obtain ⟨hi1, hi2⟩ := hi
    have hi1 : i < ops.size := by simpa using hi1
    have ho : ops[i]? = some ops[i] := by simp [hi1]
    rw [ho] at hi2
    simp only [Option.map_some, Option.getD_some, Bool.and_eq_true] at hi2
    refine wpOpIn_step ho fun K hK => ?_
    have hS := hstep.get (j := i) (o := ops[i]) (by simp [hi1])
    rw [Nat.zero_add] at hS
    have hsi : i < listed.size := by omega
    have hfalse : Inv.seen listed i = false := by unfold Inv.seen; simpa using hi2.1
    refine hS (Inv.seen listed) a w hfalse ?_ hJ K fun a' w' hJ' => hK a' w' (ih _ _ _ (by simp [hs]) ?_ (by rw [Inv.seen_set listed i hsi]; exact hJ'))
    · have h3 := hi2.2
      have hback := Inv.backB_get hb (j := i) (o := ops[i]) (by simp [hi1])
      rw [Array.all_eq_true_iff_forall_mem] at h3 hback ⊢
      intro e he
      have h4 := h3 e he
      have hlt : e.on < 0 + i := by simpa using hback e he
      have hsz : e.on < listed.size := by omega
      unfold Inv.seen
      simp [hsz] at h4 ⊢
      exact h4
    · have hx : listed[i] = false := by unfold Inv.seen at hfalse; simpa [hsi] using hfalse
      have e1 : listed.toList = listed.toList.take i ++ false :: listed.toList.drop (i + 1) := by
        have := Oct.get_split listed.toList i (by simpa using hsi)
        simpa [hx] using this
      have e2 : (listed.setIfInBounds i true).toList = listed.toList.take i ++ true :: listed.toList.drop (i + 1) := by
        rw [Array.toList_setIfInBounds, Oct.set_split _ _ (by simpa using hsi)]
      rw [e2, List.filter_append, List.length_append]
      rw [e1, List.filter_append, List.length_append] at hf
      simp at hf ⊢
      omega
theorem wpIn_region_inv {id : Nat} {a : Act} {w : World} (J : (Nat → Bool) → Act → World → Prop) (hm : P.follows .mixedOrders = true) (hb : Inv.backB 0 ops.toList = true)
    (h0 : ∀ b : Nat → Bool, (∀ i, i < ops.size → b i = false) → J b a w.drew) (hstep : Inv.Steps (Step F n P .any ops Q J) 0 ops.toList)
    (hdone : ∀ b a w, (∀ i, b i = true) → J b a w → Q .normal a w) : (Code.region id ops true).wpIn F n P Q a w := by
  refine wpIn_region_any hm (wpAnyIn_inv J hb hstep hdone _ _ _ _ (by simp) ?_ (h0 _ fun i hi => ?_))
  · simp
  · unfold Inv.seen; simp [hi]
end
end Go.Proofs.Ytkhimoclikhlaaa.InvIn
