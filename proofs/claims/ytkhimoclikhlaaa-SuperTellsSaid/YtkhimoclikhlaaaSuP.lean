/- What the frames of the statements hand to their walks: supers and bytes that come in. -/
import Derived.Test.YtkhimoclikhlaaaSuK
import Derived.ChangeOld
import Derived.OpenShut
namespace Go.Proofs.Ytkhimoclikhlaaa.Su
open Go.RowKit Go.Proofs.Ytkhimoclikhlaaa.Oct Go.Proofs.Ytkhimoclikhlaaa.Sf Go.ChangeShapes Go.WideShapes Go.ChangeAt
set_option linter.unusedVariables false

theorem wpList_build_g {P : Program} {ops : Array Oper} {rest : List Oper} {o : Oper} {a : Act} {w : World} {Q : Exit → Act → World → Prop} (hg : Region.wanted o (yielded ops a.tmps) = true) (t : TypeId) (parts : Array (Nat × Operand)) (ho : o.op = .build t parts)
    (cs : Array Value) (hb : P.built t (parts.map fun (i, x) => (i, a.eval x)).toList = some cs)
    (h : wpList P ops Q rest (a.put o.dst (.agg cs)) w) : wpList P ops Q (o :: rest) a w :=
  wpList_step fun K hK => by rw [if_pos hg]; exact wp_build t parts ho (by rw [hb]; rfl) (by rw [hb]; exact hK _ _ h)
theorem sup_of_cells (cs : Array Value) (hsz : cs.size = 18) (he : ∀ j, j < 18 → ∃ n : Nat, cs[j]? = some (scell j n) ∧ n < 18446744073709551616 ∧ (1 ≤ j → j < 10 → n < 4294967296)) : ∃ s, Ok s ∧ cs = (scells s).toArray := by
  obtain ⟨F, hF⟩ : ∃ F : Nat → Nat, ∀ j, j < 18 → cs[j]? = some (scell j (F j)) ∧ F j < 18446744073709551616 ∧ (1 ≤ j → j < 10 → F j < 4294967296) :=
    ⟨fun j => if h : j < 18 then (he j h).choose else 0, fun j h => by simp only [h, dif_pos]; exact (he j h).choose_spec⟩
  refine ⟨supOf F, ⟨length_supOf F, fun j => ?_, fun j h1 h2 => ?_⟩, ?_⟩
  · by_cases h : j < 18
    · rw [nth_supOf F j h]; exact (hF j h).2.1
    · rw [nth_over (length_supOf F) j h]; decide
  · rw [nth_supOf F j (by omega)]; exact (hF j (by omega)).2.2 h1 h2
  · apply Array.ext
    · simp [hsz, length_scells]
    · intro i h1 h2
      have hi : i < 18 := by omega
      have h3 := (hF i hi).1
      have h4 := scells_at (supOf F) i hi
      rw [nth_supOf F i hi] at h4
      rw [Array.getElem?_eq_getElem h1] at h3
      have h5 : (scells (supOf F))[i]? = some ((scells (supOf F)).toArray[i]'h2) := by simp
      rw [h4] at h5
      rw [Option.some.inj h3, Option.some.inj h5]
theorem u64_wf {n : Int} (h : (Lit.int .u64 n).wf = true) : ∃ k : Nat, n = (k : Int) ∧ k < 18446744073709551616 := by
  have h2 : IntKind.u64.min ≤ n ∧ n ≤ IntKind.u64.max := by simpa [Lit.wf] using h
  have h3 : (0 : Int) ≤ n ∧ n ≤ 18446744073709551615 := h2
  exact ⟨n.toNat, by omega, by omega⟩
theorem u32_wf {n : Int} (h : (Lit.int .u32 n).wf = true) : ∃ k : Nat, n = (k : Int) ∧ k < 4294967296 := by
  have h2 : IntKind.u32.min ≤ n ∧ n ≤ IntKind.u32.max := by simpa [Lit.wf] using h
  have h3 : (0 : Int) ≤ n ∧ n ≤ 4294967295 := h2
  exact ⟨n.toNat, by omega, by omega⟩
theorem at_take {cs : List Value} {o : Nat} {v : Value} (h : (cs.drop o).take 1 = [v]) : cs[o]? = some v := by
  have := congrArg (fun l => l[0]?) h
  simpa using this
section
variable {H : Type} {enc : TypeId × Value → H} {W : World}
theorem came_super {b0 : Nat} {v : Value} {d : DataW H} {p : List MemPlace} (hv : Value.okWide Try.prog W .any b0 27 v) (h : DataW.Trod enc Try.prog W 0 (fun _ => true) true 27 v d p) :
    ∃ s, v = sval s ∧ Ok s := by
  have hsz0 : Try.prog.cellsOf 27 = 18 := by kernel_rfl
  obtain ⟨cs, rfl, hsz⟩ := okWide_struct Try.underlying27 hv
  obtain ⟨fuel, hf⟩ := h
  obtain ⟨ys, m, _, _, hl, hn, hp⟩ := DataW.trod_struct Try.underlying27 hf
  have hc64 : Try.prog.cellsOf 22 = 1 := by kernel_rfl
  have hc32 : Try.prog.cellsOf 23 = 1 := by kernel_rfl
  have hr : Try.prog.cellsOf 24 = 8 := by kernel_rfl
  have hm : Try.prog.cellsOf 25 = 8 := by kernel_rfl
  have hys : ys.length = 4 := hn
  have hcl : (Value.agg cs).cells = cs := rfl
  rw [hcl] at hp
  have p0 : DataW.trod enc Try.prog W 0 (fun _ => true) true m 22 ((cs.toList.drop 0).take (Try.prog.cellsOf 22)) = ys[0]? := hp 0 _ rfl
  rw [hc64] at p0
  have p1 : DataW.trod enc Try.prog W 0 (fun _ => true) true m 23 ((cs.toList.drop 1).take (Try.prog.cellsOf 23)) = ys[1]? := hp 1 _ rfl
  rw [hc32] at p1
  have p2 : DataW.trod enc Try.prog W 0 (fun _ => true) true m 24 ((cs.toList.drop 2).take (Try.prog.cellsOf 24)) = ys[2]? := hp 2 _ rfl
  rw [hr] at p2
  have p3 : DataW.trod enc Try.prog W 0 (fun _ => true) true m 25 ((cs.toList.drop 10).take (Try.prog.cellsOf 25)) = ys[3]? := hp 3 _ rfl
  rw [hm] at p3
  rw [List.getElem?_eq_getElem (by omega)] at p0 p1 p2 p3
  obtain ⟨z0, e0, _, w0⟩ := DataW.trod_int Try.underlying22 p0
  obtain ⟨z1, e1, _, w1⟩ := DataW.trod_int Try.underlying23 p1
  obtain ⟨x2, m2, _, _, _, l2, q2⟩ := DataW.trod_array Try.underlying24 p2
  obtain ⟨x3, m3, _, _, _, l3, q3⟩ := DataW.trod_array Try.underlying25 p3
  have key : ∀ j, j < 18 → ∃ n : Nat, cs[j]? = some (scell j n) ∧ n < 18446744073709551616 ∧ (1 ≤ j → j < 10 → n < 4294967296) := by
    intro j hj
    by_cases j0 : j = 0
    · subst j0
      obtain ⟨k, rfl, hk⟩ := u64_wf w0
      exact ⟨k, by rw [scell_wide _ _ (.inl rfl)]; simpa using at_take e0, hk, fun h => by omega⟩
    · by_cases j1 : j = 1
      · subst j1
        obtain ⟨k, rfl, hk⟩ := u32_wf w1
        exact ⟨k, by rw [scell_small _ _ (by decide) (by decide)]; simpa using at_take e1, by omega, fun _ _ => hk⟩
      · by_cases j2 : j < 10
        · have hq := q2 (j - 2) (by omega)
          rw [hc32, Nat.mul_one, List.getElem?_eq_getElem (by omega), List.drop_take, List.drop_drop, List.take_take, Nat.min_eq_left (by omega), show 2 + (j - 2) = j by omega] at hq
          obtain ⟨z, e, _, wf⟩ := DataW.trod_int Try.underlying23 hq
          obtain ⟨k, rfl, hk⟩ := u32_wf wf
          exact ⟨k, by rw [scell_small _ _ (by omega) j2]; simpa using at_take e, by omega, fun _ _ => hk⟩
        · have hq := q3 (j - 10) (by omega)
          rw [hc64, Nat.mul_one, List.getElem?_eq_getElem (by omega), List.drop_take, List.drop_drop, List.take_take, Nat.min_eq_left (by omega), show 10 + (j - 10) = j by omega] at hq
          obtain ⟨z, e, _, wf⟩ := DataW.trod_int Try.underlying22 hq
          obtain ⟨k, rfl, hk⟩ := u64_wf wf
          exact ⟨k, by rw [scell_wide _ _ (.inr (by omega))]; simpa using at_take e, hk, fun _ h => by omega⟩
  obtain ⟨s, h1, rfl⟩ := sup_of_cells cs (hsz.trans hsz0) key
  exact ⟨s, rfl, h1⟩
end
end Go.Proofs.Ytkhimoclikhlaaa.Su
