/- What Take finds, reckoned; the law's own example. (Written by bin/gen_pkawake.py.) -/
import Derived.Test.YtlemjegngnfanaaPkD
namespace Go.Proofs.Ytlemjegngnfanaa.Pk
open Go.RowKit Go.Proofs.Ytlemjegngnfanaa.Oct Go.Proofs.Ytlemjegngnfanaa.Mv Go.Proofs.Ytlemjegngnfanaa.Tl Go.Maps
set_option linter.unusedVariables false

/-- The first free block of k from f on. -/
def first? (s : St) (f : Nat) : Nat → Option Nat
  | 0 => none
  | k + 1 => if s.free f then some f else first? s (f + 1) k
theorem first_some {s : St} {f k b : Nat} (h : first? s f k = some b) : f ≤ b ∧ b < f + k ∧ s.free b = true ∧ ∀ j, f ≤ j → j < b → s.free j = false := by
  induction k generalizing f with
  | zero => cases h
  | succ k ih =>
    unfold first? at h
    cases hf : s.free f
    · rw [hf] at h
      obtain ⟨h1, h2, h3, h4⟩ := ih h
      refine ⟨by omega, by omega, h3, fun j hj1 hj2 => ?_⟩
      by_cases e : j = f
      · subst e; exact hf
      · exact h4 j (by omega) hj2
    · rw [hf] at h
      cases h
      exact ⟨Nat.le_refl _, by omega, hf, fun j h1 h2 => absurd h1 (by omega)⟩
theorem first_none {s : St} {f k : Nat} (h : first? s f k = none) : ∀ j, f ≤ j → j < f + k → s.free j = false := by
  induction k generalizing f with
  | zero => intro j h1 h2; omega
  | succ k ih =>
    unfold first? at h
    cases hf : s.free f
    · rw [hf] at h
      intro j h1 h2
      by_cases e : j = f
      · subst e; exact hf
      · exact ih h j (by omega) (by omega)
    · rw [hf] at h
      cases h
/-- What is found. -/
def Q.seek (q : Q) : Option Nat :=
  match first? q.s q.next (q.s.n - q.next) with
  | some b => some b
  | none => first? q.s q.first (q.next - q.first)
theorem seek_found {q : Q} (hok : q.Ok) {b : Nat} (h : q.seek = some b) : q.Found b := by
  have hn := hok.nextn
  have hl := hok.le
  unfold Q.seek at h
  cases e : first? q.s q.next (q.s.n - q.next) with
  | some b' =>
    rw [e] at h
    cases h
    obtain ⟨h1, h2, h3, h4⟩ := first_some e
    exact ⟨by omega, h3, .inl ⟨h1, h4⟩⟩
  | none =>
    rw [e] at h
    obtain ⟨h1, h2, h3, h4⟩ := first_some h
    have h0 := first_none e
    exact ⟨by omega, h3, .inr ⟨fun j a b => h0 j a (by omega), h1, by omega, h4⟩⟩
theorem seek_none {q : Q} (hok : q.Ok) (h : q.seek = none) : q.None := by
  have hn := hok.nextn
  have hl := hok.le
  unfold Q.seek at h
  cases e : first? q.s q.next (q.s.n - q.next) with
  | some b' => rw [e] at h; cases h
  | none =>
    rw [e] at h
    have h0 := first_none e
    have h1 := first_none h
    exact ⟨fun j a b => h0 j a (by omega), fun j a b => h1 j a (by omega)⟩
theorem found_not {q : Q} {b : Nat} (h : q.Found b) (hn : q.None) : False := by
  rcases h.2.2 with ⟨h1, _⟩ | ⟨_, h1, h2, _⟩
  · have := hn.1 b h1 h.1
    rw [h.2.1] at this
    cases this
  · have := hn.2 b h1 h2
    rw [h.2.1] at this
    cases this
theorem found_one {q : Q} {b d : Nat} (h : q.Found b) (k : q.Found d) : b = d := by
  have e (i j : Nat) (hi : q.s.free i = true) (hj : q.s.free j = true) (lo : Nat) (li : lo ≤ i) (lj : lo ≤ j) (fi : ∀ x, lo ≤ x → x < i → q.s.free x = false) (fj : ∀ x, lo ≤ x → x < j → q.s.free x = false) : i = j := by
    rcases Nat.lt_trichotomy i j with h | h | h
    · have := fj i li h; rw [hi] at this; cases this
    · exact h
    · have := fi j lj h; rw [hj] at this; cases this
  rcases h.2.2 with ⟨h1, h2⟩ | ⟨h0, h1, h2, h3⟩ <;> rcases k.2.2 with ⟨k1, k2⟩ | ⟨k0, k1, k2, k3⟩
  · exact e b d h.2.1 k.2.1 q.next h1 k1 h2 k2
  · have := k0 b h1 h.1; rw [h.2.1] at this; cases this
  · have := h0 d k1 k.1; rw [k.2.1] at this; cases this
  · exact e b d h.2.1 k.2.1 q.first h1 k1 h3 k3
theorem look_one {q : Q} {b d : Nat} {x y : Bool} (h : q.Look b x) (k : q.Look d y) : b = d ∧ x = y := by
  cases x <;> cases y
  · exact ⟨h.1.trans k.1.symm, rfl⟩
  · exact (found_not k h.2).elim
  · exact (found_not h k.2).elim
  · exact ⟨found_one h k, rfl⟩

/-! ### In the walk's words -/
section
variable {w : World} {p a cb mb c : Nat} {q q' : Q}
theorem room_eq (h : PAt w p a cb mb c q) (n : Int) (hr : (q.room : Int) = n) :
    Calls Try.prog 31 #[.pointer (some ⟨p, 0, none⟩)] w fun e w' => e = .returned (.int .i64 n) ∧ w = w' := by
  subst hr
  exact room_at h
theorem take_eq (h : PAt w p a cb mb c q) (b : Nat) (hs : q.seek = some b) (hq : q.took b = q') :
    Calls Try.prog 15 #[.pointer (some ⟨p, 0, none⟩)] w fun e w' => e = .returned (.tuple #[.int .i64 (b : Int), .int .i64 0]) ∧ PAt w' p a cb mb c q' ∧ But3 w w' cb mb p := by
  subst hq
  refine (take_at h).mono fun e w' ⟨d, ok, h1, h2, h3, h4⟩ => ?_
  obtain ⟨rfl, rfl⟩ := look_one h2 (show q.Look b true from seek_found h.ok hs)
  exact ⟨h1, h3, h4⟩
theorem take_off (h : PAt w p a cb mb c q) (hs : q.seek = none) :
    Calls Try.prog 15 #[.pointer (some ⟨p, 0, none⟩)] w fun e w' => e = .returned (.tuple #[.int .i64 0, .int .i64 90]) ∧ PAt w' p a cb mb c q ∧ But3 w w' cb mb p := by
  refine (take_at h).mono fun e w' ⟨d, ok, h1, h2, h3, h4⟩ => ?_
  obtain ⟨rfl, rfl⟩ := look_one h2 (show q.Look 0 false from ⟨rfl, seek_none h.ok hs⟩)
  exact ⟨h1, h3, h4⟩
end
end Go.Proofs.Ytlemjegngnfanaa.Pk

