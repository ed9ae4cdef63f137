/- The statements' own check of the chapter's examples ('awake') answers true. -/
import Derived.Test.YthcjhbjhghfhjaaDskN
namespace Go.Proofs.Ythcjhbjhghfhjaa.Dsk
open Go.RowKit Go.Proofs.Ythcjhbjhghfhjaa.Oct
set_option linter.unusedVariables false

theorem row_turned {w w' : World} {base g : Nat} {bs : List UInt8} (h : Row w g bs) (t : Turned dT base w w') : Row w' g bs :=
  (t.block g h.lt (.inr fun cs ty fr hc => by rw [h] at hc; cases hc; rfl)).trans h
theorem row_older {w w' : World} {g : Nat} {bs : List UInt8} (h : Row w g bs) (b : Below w.heap.size w w') : Row w' g bs := (b.block g h.lt).trans h
theorem aside_none (w : World) (base : Nat) : Aside w base none := fun x hx => by cases hx
theorem read_off {w : World} {base a : Nat} {s : St} (h : Is w base a s) (hg : s.gone = true) (p : Int) :
    Calls Try.prog 21 #[.pointer (some ⟨a, 0, none⟩), .int .i64 p] w fun e w' => e = .returned (.tuple #[.slice none 0 0, .int .i64 20]) ∧ w = w' := by obtain ⟨bb, bc, wv, h⟩ := h; exact read_down h hg p
theorem read_bad {w : World} {base a : Nat} {s : St} (h : Is w base a s) (hg : s.gone = false) (p : Int) (hp : ¬ (0 ≤ p ∧ p < s.n)) :
    Calls Try.prog 21 #[.pointer (some ⟨a, 0, none⟩), .int .i64 p] w fun e w' => e = .returned (.tuple #[.slice none 0 0, .int .i64 2]) ∧ w = w' := by obtain ⟨bb, bc, wv, h⟩ := h; exact read_out h hg p hp

def ones : List UInt8 := List.replicate 128 1
def twos : List UInt8 := List.replicate 128 2
/-- The disk of the examples, and what is there beside it. -/
structure Env (w0 w : World) (base a g1 g2 : Nat) (s : St) : Prop where
  I : Is w base a s
  R1 : Row w g1 ones
  R2 : Row w g2 twos
  B : Below w0.heap.size w0 w
  hb : w0.heap.size ≤ base
theorem Env.did {w0 w w' : World} {base a g1 g2 : Nat} {s s' : St} (h : Env w0 w base a g1 g2 s) (I : Is w' base a s') (T : Turned dT base w w') : Env w0 w' base a g1 g2 s' :=
  ⟨I, row_turned h.R1 T, row_turned h.R2 T, h.B.trans ((T.below (by have := h.I.lo; have := h.I.lt; omega)).mono h.hb), h.hb⟩
theorem Env.old {w0 w w' : World} {base a g1 g2 : Nat} {s : St} (h : Env w0 w base a g1 g2 s) (b : Below w.heap.size w w') : Env w0 w' base a g1 g2 s :=
  ⟨h.I.below b, row_older h.R1 b, row_older h.R2 b, h.B.trans (b.mono h.B.size), h.hb⟩

def a1 : Int × St := (fresh 16).doWrite 3 ones
def a2 : Int × St := a1.2.doCrash [] (-1) 0
def a3 : Int × St := a2.2.doWrite 3 ones
def a4 : Int × St := a3.2.doFlush
def a5 : Int × St := a4.2.doWrite 3 twos
def a6 : Int × St := a5.2.doCrash [] 0 2
def a7 : Int × St := a6.2.doArm 1
def a8 : Int × St := a7.2.doWrite 4 twos
def a9 : Int × St := a8.2.doFlush
def a10 : Int × St := a9.2.doCrash [true] (-1) 0
theorem e1 : a1.1 = 0 := by decide +kernel
theorem e2 : a2.1 = 0 := by decide +kernel
theorem e3 : a3.1 = 0 := by decide +kernel
theorem e4 : a4.1 = 0 := by decide +kernel
theorem e5 : a5.1 = 0 := by decide +kernel
theorem e6 : a6.1 = 0 := by decide +kernel
theorem e7 : a7.1 = 0 := by decide +kernel
theorem e8 : a8.1 = 0 := by decide +kernel
theorem e9 : a9.1 = 20 := by decide +kernel
theorem e10 : a10.1 = 0 := by decide +kernel
theorem e11 : (a10.2.doWrite 16 ones).1 = 2 := by decide +kernel
theorem e12 : (a10.2.doWrite 16 ones).2.doWrite 0 (ones.drop 1) = (2, (a10.2.doWrite 16 ones).2) := by
  have h1 : (a10.2.doWrite 16 ones).2.gone = false := by decide +kernel
  have h2 : (0 : Int) ≤ 0 ∧ (0 : Int) < (a10.2.doWrite 16 ones).2.n := by decide +kernel
  unfold St.doWrite at *
  rw [if_neg (by rw [h1]; decide), if_neg (fun h => h h2), if_pos (by decide +kernel)]
theorem e13 : ((a10.2.doWrite 16 ones).2.doArm (-1)).1 = 2 := by decide +kernel
theorem g1_ : a1.2.gone = false ∧ a2.2.gone = false ∧ a6.2.gone = false ∧ a9.2.gone = true ∧ a10.2.gone = false := by decide +kernel
theorem n1_ : a1.2.n = 16 ∧ a2.2.n = 16 ∧ a6.2.n = 16 ∧ a10.2.n = 16 := by decide +kernel
theorem w1_ : (fresh 16).W.length < 1000000 ∧ a2.2.W.length < 1000000 ∧ a4.2.W.length < 1000000 ∧ a7.2.W.length < 1000000 ∧ a10.2.W.length < 1000000 ∧ (a10.2.doWrite 16 ones).2.W.length < 1000000 := by decide +kernel
theorem s1_ : ((a1.2.says 3).take 1 == [1]) = true := by decide +kernel
theorem s2_ : ((a2.2.says 3).take 1 == [0]) = true := by decide +kernel
theorem s6_ : ((a6.2.says 3).take 4 == [2, 2, 1, 1]) = true := by decide +kernel
theorem s10_ : ((a10.2.says 4).take 1 == [2]) = true := by decide +kernel
theorem p1_ : a1.2.places = [3] := by decide +kernel
theorem l1_ : a1.2.W.length = 1 := by decide +kernel
theorem flags_one {w : World} {g : Nat} {f : Bool} (h : w.heap[g]? = some (.cells #[.bool f] 4 (0, 0))) : Flags w (some ⟨g, 0, none⟩) [f] := by
  refine .inr ⟨g, 0, rfl, fun i hi => ?_⟩
  have h0 : i = 0 := by simp at hi; omega
  subst h0
  exact cell_of_row _ _ 0 _ _ _ h
theorem aside_bool {w : World} {g base : Nat} {cs : Array Value} {fr : Nat × Nat} (h : w.heap[g]? = some (.cells cs 4 fr)) : Aside w base (some ⟨g, 0, none⟩) := fun x hx => by
  cases hx
  exact .inr fun cs t fr hc => by rw [h] at hc; cases hc; rfl
end Go.Proofs.Ythcjhbjhghfhjaa.Dsk
