/- Operations that come in; done: an operation, its block among those there are. -/
import Derived.Test.YtlemjegngnfanaaTlK
import Derived.Lib.MinMax
import Derived.Deep.Slices
namespace Go.Proofs.Ytlemjegngnfanaa.Tl
open Go.RowKit Go.Proofs.Ytlemjegngnfanaa.Oct Go.Proofs.Ytlemjegngnfanaa.Mv Go.Maps Go.ChangeShapes Go.WideShapes Go.ChangeAt
set_option linter.unusedVariables false

/-- An operation that came in: what, and its block. -/
structure Opr where
  what : UInt8
  b : Int
def Opr.val (x : Opr) : Value := .agg #[.int .u8 (x.what.toNat : Int), .int .i64 x.b]
/-- Its two cells. -/
structure Opr.Lies (w : World) (b o : Nat) (x : Opr) : Prop where
  c0 : w.cell? ⟨b, o, none⟩ = some (.int .u8 (x.what.toNat : Int))
  c1 : w.cell? ⟨b, o + 1, none⟩ = some (.int .i64 x.b)
structure OpsIn (w : World) (A : Option Addr) (len cap : Nat) (l : List Opr) : Prop where
  hlen : l.length = len
  fits : ∀ x ∈ l, (Lit.int .i64 x.b).wf = true
  lies : l = [] ∨ ∃ b o, A = some ⟨b, o, none⟩ ∧ ∀ i (h : i < l.length), l[i].Lies w b (o + i * 2)
  le : len ≤ cap
  cap : cap ≤ maxLen
theorem Opr.Lies.below {w w' : World} {b o : Nat} {x : Opr} (h : x.Lies w b o) (k : Below w.heap.size w w') : x.Lies w' b o := by
  have hl := World.block_lt_of_cell? w _ h.c0
  exact ⟨(k.cell hl).trans h.c0, (k.cell (p := ⟨b, o + 1, none⟩) hl).trans h.c1⟩
theorem OpsIn.below {w w' : World} {A : Option Addr} {len cap : Nat} {l : List Opr} (h : OpsIn w A len cap l) (k : Below w.heap.size w w') : OpsIn w' A len cap l :=
  ⟨h.hlen, h.fits, h.lies.imp id (fun ⟨b, o, e, q⟩ => ⟨b, o, e, fun i hi => (q i hi).below k⟩), h.le, h.cap⟩
theorem OpsIn.at {w : World} {A : Option Addr} {len cap k : Nat} {l : List Opr} (h : OpsIn w A len cap l) (hk : k < len) :
    ∃ b o x, A = some ⟨b, o, none⟩ ∧ l[k]? = some x ∧ x.Lies w b (o + k * 2) ∧ (Lit.int .i64 x.b).wf = true := by
  have hl := h.hlen
  rcases h.lies with e | ⟨b, o, e, q⟩
  · subst e; simp at hl; omega
  · have hk2 : k < l.length := by omega
    exact ⟨b, o, l[k], e, by simp [hk2], q k hk2, h.fits _ (List.getElem_mem _)⟩

section
variable {H : Type} {enc : TypeId × Value → H} {W : World}
theorem cellsU8 : Try.prog.cellsOf 5 = 1 := by kernel_rfl
theorem cellsI : Try.prog.cellsOf 3 = 1 := by kernel_rfl
theorem two {α : Type} : ∀ (l : List α), l.length = 2 → ∃ c0 c1, l = [c0, c1]
  | [c0, c1], _ => ⟨c0, c1, rfl⟩
  | [], h | [_], h => by simp at h
  | _ :: _ :: _ :: _, h => by simp at h
end
end Go.Proofs.Ytlemjegngnfanaa.Tl

