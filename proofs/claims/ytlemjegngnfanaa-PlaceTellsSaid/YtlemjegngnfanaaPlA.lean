/- Pages of a row; frames of several blocks; sets of numbers in memory: may, has. -/
import Derived.Test.YtlemjegngnfanaaPkF
namespace Go.Proofs.Ytlemjegngnfanaa.Pl
open Go.RowKit Go.Proofs.Ytlemjegngnfanaa.Oct Go.Proofs.Ytlemjegngnfanaa.Mv Go.Proofs.Ytlemjegngnfanaa.Tl Go.Proofs.Ytlemjegngnfanaa.Pk Go.Maps
set_option linter.unusedVariables false

/-! ### Pages -/
def pagesOf (n : Int) : Int := if n < 1 then 0 else (n - 1) / 61 + 1
theorem pages_any (n : Int) (h1 : -9223372036854775808 ≤ n) (h2 : n ≤ 9223372036854775807) (w : World) :
    Calls Try.prog 37 #[.int .i64 n] w fun e w' => e = .returned (.int .i64 (pagesOf n)) ∧ w = w' := by
  unfold pagesOf
  by_cases h : n < 1
  · rw [if_pos h]
    go_enter Try.func37, Try.ntmps37
    go_wp2
    go_ret
    exact ⟨rfl, rfl⟩
  · rw [if_neg h]
    have ht : (n - 1).tdiv 61 = (n - 1) / 61 := Int.tdiv_eq_ediv_of_nonneg (by omega)
    go_enter Try.func37, Try.ntmps37
    go_wp2
    go_ret
    exact ⟨by first | rfl | (congr 1; congr 1; omega), rfl⟩
theorem place_pos (n : Nat) (h2 : n ≤ 9223372036854775807) (w : World) :
    Calls Try.prog 67 #[.int .i64 (n : Int)] w fun e w' => e = .returned (.tuple #[.int .i64 ((n / 61 : Nat) : Int), .int .i64 ((n % 61 : Nat) : Int)]) ∧ w = w' := by
  have h0 : ¬ ((n : Int) < 0) := by omega
  have ht : (n : Int).tdiv 61 = ((n / 61 : Nat) : Int) := by rw [Int.tdiv_eq_ediv_of_nonneg (by omega)]; rfl
  have hm : (n : Int).tmod 61 = ((n % 61 : Nat) : Int) := by rw [Int.tmod_eq_emod_of_nonneg (by omega)]; rfl
  go_enter Try.func67, Try.ntmps67
  go_wp2
  go_ret2
  refine ⟨?_, rfl⟩
  congr 3
/-- How many count pages of n blocks there are, and how many directory pages of these. -/
def pg (n : Nat) : Nat := (n + 60) / 61
theorem pages_pg (n : Nat) : pagesOf (n : Int) = (pg n : Int) := by
  unfold pagesOf pg
  split <;> omega
theorem pages_eq (n : Nat) (h : n ≤ 9223372036854775807) (w : World) :
    Calls Try.prog 37 #[.int .i64 (n : Int)] w fun e w' => e = .returned (.int .i64 (pg n : Int)) ∧ w = w' := by
  rw [← pages_pg]
  exact pages_any n (by omega) (by omega) w
def need (n : Nat) : Nat := pg n + pg (pg n)
theorem need_eq (n : Nat) (h : n ≤ 4096) (w : World) :
    Calls Try.prog 12 #[.int .i64 (n : Int)] w fun e w' => e = .returned (.int .i64 (need n : Int)) ∧ w = w' := by
  have hp : pg n ≤ 4096 := by unfold pg; omega
  have hpp : pg (pg n) ≤ 4096 := by unfold pg at *; omega
  have e1 : (pg n : Int) + (pg (pg n) : Int) = (need n : Int) := by unfold need; omega
  go_enter Try.func12, Try.ntmps12
  go_wp2_with fail
  refine (pages_eq n (by omega) _).mono ?_
  rintro e w' ⟨rfl, rfl⟩
  go_wp2_with fail
  refine (pages_eq n (by omega) _).mono ?_
  rintro e w' ⟨rfl, rfl⟩
  go_wp2_with fail
  refine (pages_eq (pg n) (by omega) _).mono ?_
  rintro e w' ⟨rfl, rfl⟩
  go_wp2_with fail
  go_ret
  exact ⟨by first | rfl | rw [e1], rfl⟩
theorem need_neg (n : Int) (h1 : -9223372036854775808 ≤ n) (h : n < 1) (w : World) :
    Calls Try.prog 12 #[.int .i64 n] w fun e w' => e = .returned (.int .i64 0) ∧ w = w' := by
  have e1 : pagesOf n = 0 := by unfold pagesOf; rw [if_pos h]
  have e2 : pagesOf 0 = 0 := by decide
  go_enter Try.func12, Try.ntmps12
  go_wp2_with fail
  refine (pages_any n (by omega) (by omega) _).mono ?_
  rintro e w' ⟨rfl, rfl⟩
  go_wp2_with fail
  refine (pages_any n (by omega) (by omega) _).mono ?_
  rintro e w' ⟨rfl, rfl⟩
  rw [e1]
  go_wp2_with fail
  refine (pages_any 0 (by omega) (by omega) _).mono ?_
  rintro e w' ⟨rfl, rfl⟩
  rw [e2]
  go_wp2_with fail
  go_ret
  exact ⟨rfl, rfl⟩

/-! ### What has turned: blocks of a list, and new ones -/
structure ButL (w w' : World) (L : List Nat) : Prop where
  os : w'.os = w.os
  tape : w'.tape = w.tape
  output : w'.output = w.output
  size : w.heap.size ≤ w'.heap.size
  block : ∀ k, k < w.heap.size → k ∉ L → w'.heap[k]? = w.heap[k]?
theorem ButL.refl (w : World) (L : List Nat) : ButL w w L := ⟨rfl, rfl, rfl, Nat.le_refl _, fun _ _ _ => rfl⟩
/-- What the second part has turned of blocks that the first one began with is on the list. -/
theorem ButL.join {w w' w'' : World} {L M : List Nat} (h : ButL w w' L) (k : ButL w' w'' M) (hM : ∀ x ∈ M, x ∈ L ∨ w.heap.size ≤ x) : ButL w w'' L :=
  ⟨k.os.trans h.os, k.tape.trans h.tape, k.output.trans h.output, Nat.le_trans h.size k.size, fun j hj hL => (k.block j (Nat.lt_of_lt_of_le hj h.size) (fun hm => (hM j hm).elim hL fun h1 => by omega)).trans (h.block j hj hL)⟩
theorem ButL.trans {w w' w'' : World} {L : List Nat} (h : ButL w w' L) (k : ButL w' w'' L) : ButL w w'' L := h.join k fun _ h => .inl h
theorem ButL.mono {w w' : World} {L M : List Nat} (h : ButL w w' L) (hM : ∀ x ∈ L, x ∈ M ∨ w.heap.size ≤ x) : ButL w w' M := (ButL.refl w M).join h hM
theorem ButL.of_below {w w' : World} {B : Nat} (L : List Nat) (h : Below B w w') (hB : w.heap.size ≤ B) : ButL w w' L := ⟨h.os, h.tape, h.output, h.size, fun k hk _ => h.block k (by omega)⟩
theorem ButL.of_but {w w' : World} {p q : Nat} (h : But w w' p q) : ButL w w' [p, q] := ⟨h.os, h.tape, h.output, h.size, fun k hk hm => h.block k hk (by simp at hm; exact hm.1) (by simp at hm; exact hm.2)⟩
theorem ButL.of_but3 {w w' : World} {p q r : Nat} (h : But3 w w' p q r) : ButL w w' [p, q, r] := ⟨h.os, h.tape, h.output, h.size, fun k hk hm => by simp at hm; exact h.block k hk hm.1 hm.2.1 hm.2.2⟩
theorem ButL.set (w : World) (r i : Nat) (v : Value) : ButL w (w.setCell ⟨r, i, none⟩ v) [r] := ⟨rfl, rfl, rfl, by simp, fun k _ hm => heap_setCell_other _ _ _ _ (by simpa using hm)⟩
theorem ButL.to3 {w w' : World} {p q r : Nat} (h : ButL w w' [p, q, r]) : But3 w w' p q r := ⟨h.os, h.tape, h.output, h.size, fun k hk h1 h2 h3 => h.block k hk (by simp; exact ⟨h1, h2, h3⟩)⟩
theorem ButL.below {w w' : World} {L : List Nat} {B : Nat} (h : ButL w w' L) (hL : ∀ x ∈ L, B ≤ x) (hB : B ≤ w.heap.size) : Below B w w' :=
  ⟨h.os, h.tape, h.output, h.size, fun k hk => h.block k (by omega) (fun hm => by have := hL k hm; omega)⟩
theorem ButL.still {w w' : World} (L : List Nat) (h : Still w w') : ButL w w' L := .of_below L (h.below w.heap.size) (Nat.le_refl _)
theorem ButL.grown {w w' : World} {b : Nat} (h : w.grownBy w' (some b)) : ButL w w' [b] := ⟨h.os, h.tape, h.output, h.size, fun k hk hm => h.block k hk (fun e => hm (by cases e; simp))⟩

/-! ### A set of numbers, at block b: at most n of them -/
def SetAt (w : World) (b n : Nat) (S : Int → Prop) : Prop := ∃ D : DataW Unit, w.ownsMap Try.prog 3 unitElem b n D ∧ ∀ z : Int, Maps.has D (.int .i64 z) = true ↔ S z
section
variable {w w' : World} {b n : Nat} {S : Int → Prop}
theorem SetAt.block (h : SetAt w b n S) (k : w'.heap[b]? = w.heap[b]?) : SetAt w' b n S := by
  obtain ⟨D, ⟨es, clock, hb, F, hs, hD⟩, h2⟩ := h
  exact ⟨D, ⟨es, clock, k.trans hb, F, hs, hD⟩, h2⟩
theorem SetAt.lt (h : SetAt w b n S) : b < w.heap.size := by
  obtain ⟨_, h1, _⟩ := h
  exact h1.lt
theorem SetAt.below (h : SetAt w b n S) {B : Nat} (k : Below B w w') (hb : b < B) : SetAt w' b n S := h.block (k.block b hb)
theorem SetAt.iff (h : SetAt w b n S) {T : Int → Prop} (k : ∀ z, S z ↔ T z) : SetAt w b n T := by
  obtain ⟨D, h1, h2⟩ := h
  exact ⟨D, h1, fun z => (h2 z).trans (k z)⟩
theorem SetAt.mono (h : SetAt w b n S) {m : Nat} (k : n ≤ m) : SetAt w b m S := by
  obtain ⟨D, h1, h2⟩ := h
  exact ⟨D, h1.mono k, h2⟩
end
theorem SetAt.made (w : World) : SetAt (w.alloc (.map #[] 0)) w.heap.size 0 (fun _ => False) := ⟨.map [], World.ownsMap_made _ _ _ _, fun z => ⟨fun h => absurd h (by show ¬ (false = true); decide), False.elim⟩⟩
theorem key_any (z : Int) (h1 : -9223372036854775808 ≤ z) (h2 : z ≤ 9223372036854775807) : keyOf Try.prog 3 (.int .i64 z) = some (.int .i64 z) := keyOf_int_mk Try.underlying3 (WalkArith.wf_i64 ⟨h1, h2⟩)
theorem zero_unit (w : World) : (zeroValue 118).run Try.prog w = .ok (.agg #[]) w := by kernel_rfl
theorem put_has {D : DataW Unit} (hD : IsMap D) {S : Int → Prop} (h : ∀ z : Int, Maps.has D (.int .i64 z) = true ↔ S z) (y : Int) (d : DataW Unit) (z : Int) : Maps.has (D.put (.int .i64 y) d) (.int .i64 z) = true ↔ (S z ∨ z = y) := by
  by_cases e : z = y
  · subst e
    rw [has_put_same hD (show WideAt.IsKeyLit (.int .i64 z) from trivial)]
    simp
  · rw [has_put_other (fun e' => e (by simpa using e')), h]
    simp [e]

set_option maxRecDepth 100000 in
/-- Is it there? (The func that has answers.) -/
theorem still_any {w : World} {x sb n : Nat} {S : Int → Prop} (hx : w.cell? ⟨x, 0, none⟩ = some (.map (some sb))) (hs : SetAt w sb n S) (z : Int) (h1 : -9223372036854775808 ≤ z) (h2 : z ≤ 9223372036854775807) :
    Calls Try.prog 68 #[.int .i64 z, .pointer (some ⟨x, 0, none⟩)] w fun e w' => ∃ r : Bool, e = .returned (.bool r) ∧ (r = true ↔ S z) ∧ Below w.heap.size w w' := by
  obtain ⟨D, hown, hD⟩ := hs
  have hkey := key_any z h1 h2
  have HD := Lib.hid (hD z)
  clear hD
  go_enter Try.func68, Try.ntmps68
  go_wp2_with (first
    | (at_lookup; refine wpList_lookup_own_unit _ rfl _ _ 102 rfl 3 118 law Try.underlying102 (zero_unit _) sb n D rfl hown _ _ rfl hkey ?_))
  go_ret
  exact ⟨_, rfl, HD.out, (Below.refl _ _).alloc (Nat.le_refl _) _⟩
end Go.Proofs.Ytlemjegngnfanaa.Pl
