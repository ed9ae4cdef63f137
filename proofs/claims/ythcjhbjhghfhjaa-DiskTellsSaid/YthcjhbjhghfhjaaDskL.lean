/- The calls of disk as operations on a plain state, whatever the case. -/
import Derived.Test.YthcjhbjhghfhjaaDskH
import Derived.Test.YthcjhbjhghfhjaaDskK
namespace Go.Proofs.Ythcjhbjhghfhjaa.Dsk
open Go.RowKit Go.Proofs.Ythcjhbjhghfhjaa.Oct
set_option linter.unusedVariables false

def Is (w : World) (base a : Nat) (s : St) : Prop := ∃ bb bc wv, At w base a bb bc wv s
theorem Is.ok {w : World} {base a : Nat} {s : St} (h : Is w base a s) : s.Ok := by obtain ⟨_, _, _, h⟩ := h; exact h.ok
theorem Is.lo {w : World} {base a : Nat} {s : St} (h : Is w base a s) : base ≤ a := by obtain ⟨_, _, _, h⟩ := h; exact h.lo
theorem Is.lt {w : World} {base a : Nat} {s : St} (h : Is w base a s) : a < w.heap.size := by obtain ⟨_, _, _, h⟩ := h; exact h.lt
theorem Is.below {w w' : World} {base a : Nat} {s : St} (h : Is w base a s) (hb : Below w.heap.size w w') : Is w' base a s := by obtain ⟨_, _, _, h⟩ := h; exact ⟨_, _, _, h.below hb⟩
theorem Is.other {w w' : World} {base base' a : Nat} {s : St} {T : TypeId → Bool} (h : Is w base a s) (hb : Turned T base' w w') (hT : ∀ t, dT t = true → T t = false) : Is w' base a s := by obtain ⟨_, _, _, h⟩ := h; exact ⟨_, _, _, h.other hb hT⟩
theorem Is.says_len {w : World} {base a : Nat} {s : St} (h : Is w base a s) (p : Nat) (hp : p < s.n) : (s.says p).length = 128 := by obtain ⟨_, _, _, h⟩ := h; exact length_says h p hp

/-- What a call that answers an error, and may turn the disk, does. -/
def Did (w : World) (base a : Nat) (r : Int × St) (e : Ending) (w' : World) : Prop := e = .returned (.int .i64 r.1) ∧ Is w' base a r.2 ∧ Turned dT base w w'

def St.doWrite (s : St) (p : Int) (bs : List UInt8) : Int × St :=
  if s.gone = true then (20, s) else if ¬ (0 ≤ p ∧ p < s.n) then (2, s) else if bs.length ≠ 128 then (2, s) else if s.can = false then (20, s.spent) else (0, s.spent.wrote p.toNat bs)
def St.doFlush (s : St) : Int × St := if s.gone = true then (20, s) else if s.can = false then (20, s.spent) else (0, s.flushed)
def St.doArm (s : St) (n : Int) : Int × St := if s.gone = true then (20, s) else if n < 0 then (2, s) else (0, s.arm n.toNat)
def St.doCrash (s : St) (ks : List Bool) (torn cut : Int) : Int × St := if ¬ (0 ≤ cut ∧ cut ≤ 128) then (2, s) else (0, s.crashed ks torn cut.toNat)

theorem write_is {w : World} {base a : Nat} {s : St} (h : Is w base a s) (hfew : s.W.length < 1000000) (p : Int) (ba : Option Addr) (len cap : Nat) (bs : List UInt8) (hl : bs.length = len) (hb : ∀ w', Turned dT base w w' → Oct.Told w' ba bs) :
    Calls Try.prog 25 #[.pointer (some ⟨a, 0, none⟩), .int .i64 p, .slice ba len cap] w (Did w base a (s.doWrite p bs)) := by
  obtain ⟨bb, bc, wv, h⟩ := h
  unfold St.doWrite
  by_cases hg : s.gone = true
  · rw [if_pos hg]
    exact (write_down h hg p _).mono fun e w' ⟨he, hw⟩ => by subst hw; exact ⟨he, ⟨_, _, _, h⟩, Turned.refl _ _ _⟩
  · have hg' : s.gone = false := by simpa using hg
    rw [if_neg hg]
    by_cases hp : 0 ≤ p ∧ p < s.n
    · rw [if_neg (fun h => h hp)]
      obtain ⟨q, rfl⟩ := Int.eq_ofNat_of_zero_le hp.1
      have hq : q < s.n := by omega
      by_cases h128 : len = 128
      · rw [if_neg (by omega)]
        subst h128
        by_cases hc : s.can = true
        · rw [if_neg (by rw [hc]; simp)]
          exact (write_ok h hg' hc hfew q hq ba cap bs hl hb).mono fun e w' ⟨wv', he, ha, ht⟩ => ⟨he, ⟨_, _, _, ha⟩, ht⟩
        · have hc' : s.can = false := by simpa using hc
          rw [if_pos hc']
          exact (write_met h hg' hc' q hq ba cap).mono fun e w' ⟨he, ha, ht⟩ => ⟨he, ⟨_, _, _, ha⟩, ht⟩
      · rw [if_pos (by omega)]
        exact (write_len h hg' q hq ba len cap h128).mono fun e w' ⟨he, hw⟩ => by subst hw; exact ⟨he, ⟨_, _, _, h⟩, Turned.refl _ _ _⟩
    · rw [if_pos hp]
      exact (write_out h hg' p hp ba len cap).mono fun e w' ⟨he, hw⟩ => by subst hw; exact ⟨he, ⟨_, _, _, h⟩, Turned.refl _ _ _⟩
theorem flush_is {w : World} {base a : Nat} {s : St} (h : Is w base a s) :
    Calls Try.prog 27 #[.pointer (some ⟨a, 0, none⟩)] w (Did w base a s.doFlush) := by
  obtain ⟨bb, bc, wv, h⟩ := h
  unfold St.doFlush
  by_cases hg : s.gone = true
  · rw [if_pos hg]
    exact (flush_down h hg).mono fun e w' ⟨he, hw⟩ => by subst hw; exact ⟨he, ⟨_, _, _, h⟩, Turned.refl _ _ _⟩
  · have hg' : s.gone = false := by simpa using hg
    rw [if_neg hg]
    by_cases hc : s.can = true
    · rw [if_neg (by rw [hc]; simp)]
      exact (flush_ok h hg' hc).mono fun e w' ⟨he, ha, ht⟩ => ⟨he, ⟨_, _, _, ha⟩, ht⟩
    · have hc' : s.can = false := by simpa using hc
      rw [if_pos hc']
      exact (flush_met h hg' hc').mono fun e w' ⟨he, ha, ht⟩ => ⟨he, ⟨_, _, _, ha⟩, ht⟩
theorem arm_is {w : World} {base a : Nat} {s : St} (h : Is w base a s) (n : Int) (h1 : n ≤ 9223372036854775807) :
    Calls Try.prog 24 #[.pointer (some ⟨a, 0, none⟩), .int .i64 n] w (Did w base a (s.doArm n)) := by
  obtain ⟨bb, bc, wv, h⟩ := h
  unfold St.doArm
  by_cases hg : s.gone = true
  · rw [if_pos hg]
    exact (arm_down h hg n).mono fun e w' ⟨he, hw⟩ => by subst hw; exact ⟨he, ⟨_, _, _, h⟩, Turned.refl _ _ _⟩
  · have hg' : s.gone = false := by simpa using hg
    rw [if_neg hg]
    by_cases hn : n < 0
    · rw [if_pos hn]
      exact (arm_neg h hg' n hn).mono fun e w' ⟨he, hw⟩ => by subst hw; exact ⟨he, ⟨_, _, _, h⟩, Turned.refl _ _ _⟩
    · rw [if_neg hn]
      exact (arm_yes h hg' n (by omega) h1).mono fun e w' ⟨he, ha, ht⟩ => ⟨he, ⟨_, _, _, ha⟩, ht⟩
theorem crash_is {w : World} {base a : Nat} {s : St} (h : Is w base a s) (KA : Option Addr) (len kc : Nat) (ks : List Bool) (hlen : ks.length = len) (torn cut : Int) (hm : len ≤ maxLen) (hk : Flags w KA ks) (hka : Aside w base KA) :
    Calls Try.prog 18 #[.pointer (some ⟨a, 0, none⟩), .agg #[.slice KA len kc, .int .i64 torn, .int .i64 cut]] w (Did w base a (s.doCrash ks torn cut)) := by
  obtain ⟨bb, bc, wv, h⟩ := h
  unfold St.doCrash
  by_cases hc : 0 ≤ cut ∧ cut ≤ 128
  · rw [if_neg (fun h => h hc)]
    obtain ⟨c, rfl⟩ := Int.eq_ofNat_of_zero_le hc.1
    exact (crash_ok h (by have := h.lo; have := h.lt; omega) KA len kc ks hlen torn c (by omega) hm hk hka).mono fun e w' ⟨he, ha, ht⟩ => ⟨he, ⟨_, _, _, ha⟩, ht⟩
  · rw [if_pos hc]
    exact (crash_bad h KA len kc torn cut hc).mono fun e w' ⟨he, hb⟩ => ⟨he, ⟨_, _, _, h.below hb⟩, Turned.of_below hb⟩

/-- What Read answers: bytes in memory of their own, or none, and an error; nothing has turned. -/
def St.doRead (s : St) (p : Int) : Int × List UInt8 := if s.gone = true then (20, []) else if ¬ (0 ≤ p ∧ p < s.n) then (2, []) else (0, s.says p.toNat)
def Read1 (w : World) (r : Int × List UInt8) (e : Ending) (w' : World) : Prop :=
  ∃ A c, e = .returned (.tuple #[.slice A r.2.length c, .int .i64 r.1]) ∧ r.2.length ≤ c ∧ c ≤ 128 ∧ (r.2 ≠ [] → ∃ g, A = some ⟨g, 0, none⟩ ∧ w.heap.size ≤ g ∧ Row w' g r.2) ∧ Below w.heap.size w w'
theorem read_is {w : World} {base a : Nat} {s : St} (h : Is w base a s) (p : Int) :
    Calls Try.prog 21 #[.pointer (some ⟨a, 0, none⟩), .int .i64 p] w (Read1 w (s.doRead p)) := by
  obtain ⟨bb, bc, wv, h⟩ := h
  unfold St.doRead
  by_cases hg : s.gone = true
  · rw [if_pos hg]
    exact (read_down h hg p).mono fun e w' ⟨he, hw⟩ => by subst hw; exact ⟨none, 0, he, Nat.le_refl _, by omega, fun h => absurd rfl h, Below.refl _ _⟩
  · have hg' : s.gone = false := by simpa using hg
    rw [if_neg hg]
    by_cases hp : 0 ≤ p ∧ p < s.n
    · rw [if_neg (fun h => h hp)]
      obtain ⟨q, rfl⟩ := Int.eq_ofNat_of_zero_le hp.1
      have hq : q < s.n := by omega
      have hl := length_says h q hq
      rw [Int.toNat_natCast]
      exact (read_ok h hg' q hq).mono fun e w' ⟨g, he, hge, hr, hb⟩ => ⟨some ⟨g, 0, none⟩, 128, by rw [hl]; exact he, by rw [hl]; exact Nat.le_refl _, Nat.le_refl _, fun _ => ⟨g, rfl, hge, hr⟩, hb⟩
    · rw [if_pos hp]
      exact (read_out h hg' p hp).mono fun e w' ⟨he, hw⟩ => by subst hw; exact ⟨none, 0, he, Nat.le_refl _, by omega, fun h => absurd rfl h, Below.refl _ _⟩
theorem read_yes {w : World} {base a : Nat} {s : St} (h : Is w base a s) (hg : s.gone = false) (p : Nat) (hp : p < s.n) :
    Calls Try.prog 21 #[.pointer (some ⟨a, 0, none⟩), .int .i64 (p : Int)] w (ReadPost w (s.says p)) := by obtain ⟨bb, bc, wv, h⟩ := h; exact read_ok h hg p hp
theorem len_is {w : World} {base a : Nat} {s : St} (h : Is w base a s) :
    Calls Try.prog 29 #[.pointer (some ⟨a, 0, none⟩)] w fun e w' => e = .returned (.int .i64 (s.n : Int)) ∧ w = w' := by obtain ⟨bb, bc, wv, h⟩ := h; exact len_at h
theorem down_is {w : World} {base a : Nat} {s : St} (h : Is w base a s) :
    Calls Try.prog 20 #[.pointer (some ⟨a, 0, none⟩)] w fun e w' => e = .returned (.bool s.gone) ∧ w = w' := by obtain ⟨bb, bc, wv, h⟩ := h; exact down_at h
theorem cached_is {w : World} {base a : Nat} {s : St} (h : Is w base a s) :
    Calls Try.prog 19 #[.pointer (some ⟨a, 0, none⟩)] w (CachedPost w s) := by obtain ⟨bb, bc, wv, h⟩ := h; exact cached_at h
def Copied (w : World) (s : St) (e : Ending) (w' : World) : Prop := ∃ a, e = .returned (.pointer (some ⟨a, 0, none⟩)) ∧ Is w' w.heap.size a s ∧ Below w.heap.size w w'
theorem copy_is {w : World} {base a : Nat} {s : St} (h : Is w base a s) :
    Calls Try.prog 22 #[.pointer (some ⟨a, 0, none⟩)] w (Copied w s) := by
  obtain ⟨bb, bc, wv, h⟩ := h
  exact (copy_at h).mono fun e w' ⟨a', bb', bc', wv', he, ha, hb⟩ => ⟨a', he, ⟨_, _, _, ha⟩, hb⟩
def Newed (w : World) (n : Nat) (e : Ending) (w' : World) : Prop := ∃ a, e = .returned (.tuple #[.pointer (some ⟨a, 0, none⟩), .int .i64 0]) ∧ Is w' w.heap.size a (fresh n) ∧ Below w.heap.size w w'
theorem new_is (n : Nat) (h0 : 16 ≤ n) (h1 : n ≤ 4096) (w : World) : Calls Try.prog 10 #[.int .i64 (n : Int)] w (Newed w n) :=
  (new_ok n h0 h1 w).mono fun e w' ⟨a, bb, he, ha, hb⟩ => ⟨a, he, ⟨_, _, _, ha⟩, hb⟩
end Go.Proofs.Ythcjhbjhghfhjaa.Dsk
