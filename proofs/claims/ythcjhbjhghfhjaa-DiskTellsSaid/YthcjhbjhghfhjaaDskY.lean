/- Words for the walks over two crashed copies: flags, arrays of bytes, a disk behind a crash. -/
import Derived.Test.YthcjhbjhghfhjaaDskX
import Derived.Lib.MinMax
namespace Go.Proofs.Ythcjhbjhghfhjaa.Dsk
open Go.RowKit Go.Proofs.Ythcjhbjhghfhjaa.Oct
set_option linter.unusedVariables false

/-- A disk behind a crash: nothing waits, its two blocks lie below top. -/
def Fallen (w : World) (base top a : Nat) (s : St) : Prop := ∃ bb bc, At w base a bb bc (.slice none 0 0) s ∧ a < top ∧ bb < top
theorem Fallen.is {w : World} {base top a : Nat} {s : St} (h : Fallen w base top a s) : Is w base a s := by
  obtain ⟨bb, bc, h, _⟩ := h
  exact ⟨_, _, _, h⟩
theorem Fallen.under {w w' : World} {base top a : Nat} {s : St} (h : Fallen w base top a s) (hb : Below top w w') : Fallen w' base top a s := by
  obtain ⟨bb, bc, h, h1, h2⟩ := h
  refine ⟨bb, bc, ⟨h.lo, (hb.block a h1).trans h.head, own_same h.blocks fun k hk _ => ?_, own_same h.waits fun k hk _ => ?_, h.ok⟩, h1, h2⟩
  · cases hk
    exact hb.block bb h2
  · cases hk
def Fell2 (w : World) (base top a : Nat) (s' : St) (e : Ending) (w' : World) : Prop := e = .returned (.int .i64 0) ∧ Fallen w' base top a s' ∧ Turned dT base w w' ∧ ∀ k, top ≤ k → k < w.heap.size → w'.heap[k]? = w.heap[k]?
theorem crash_fall {w : World} {base top a : Nat} {s : St} (h : Within w base top a s) (KA : Option Addr) (len kc : Nat) (ks : List Bool) (hlen : ks.length = len) (torn cut : Int) (hc0 : 0 ≤ cut) (hcut : cut ≤ 128) (hm : len ≤ maxLen) (hk : Flags w KA ks) (hka : Aside w base KA) :
    Calls Try.prog 18 #[.pointer (some ⟨a, 0, none⟩), .agg #[.slice KA len kc, .int .i64 torn, .int .i64 cut]] w (Fell2 w base top a (s.crashed ks torn cut.toNat)) := by
  obtain ⟨c, rfl⟩ := Int.eq_ofNat_of_zero_le hc0
  obtain ⟨bb, bc, wv, h, h1, h2⟩ := h
  exact (crash_ok2 h (by have := h.lo; have := h.lt; omega) KA len kc ks hlen torn c (by omega) hm hk hka).mono fun e w' ⟨he, ha, ht, ho⟩ => ⟨he, ⟨_, _, ha, h1, h2⟩, ht, fun k hk hl => ho.block k hl (by omega) (by omega)⟩
theorem crashed_frame (s : St) (ks : List Bool) (torn : Int) (cut : Nat) : (s.crashed ks torn cut).gone = false ∧ (s.crashed ks torn cut).n = s.n ∧ (s.crashed ks torn cut).W = [] := by
  refine ⟨rfl, ?_, rfl⟩
  show (laid s (thr ks torn cut) s.W.length).n = s.n
  exact (laid_frame s _ _).1

/-! ### A list of flags that is grown -/
theorem bool_row : (Try.prog.info? 4).map (fun i => (i.zero, i.size, i.bytes)) = some (some (.bool false), 1, 1) := by kernel_rfl
def Trues (w : World) (base : Nat) (v : Value) (k : Nat) : Prop := w.ownsRow base 4 1 v k (List.replicate k (.bool true))
theorem Trues.nil (w : World) (base : Nat) : Trues w base (.slice none 0 0) 0 := World.ownsRow_nil _ _ _ _
theorem Trues.below {w w' : World} {base k : Nat} {v : Value} (h : Trues w base v k) (hb : Below w.heap.size w w') : Trues w' base v k := own_same h fun g _ hl => hb.block g hl
theorem Trues.flags {w : World} {base k : Nat} {v : Value} (h : Trues w base v k) : ∃ A c, v = .slice A k c ∧ Flags w A (List.replicate k true) ∧ ∀ b, Aside w b A := by
  rcases h.2 with ⟨rfl, rfl⟩ | ⟨g, c, cur, rfl, hb, hg, _⟩
  · exact ⟨none, 0, rfl, .inl rfl, fun b x hx => by cases hx⟩
  · refine ⟨some ⟨g, 0, none⟩, c, rfl, .inr ⟨g, 0, rfl, fun i hi => ?_⟩, fun b x hx => ?_⟩
    · have hi2 : i < k := by simpa using hi
      have := World.ownsRow.cells h (g := g) rfl i (.bool true) (by rw [List.getElem?_replicate, if_pos hi2])
      rw [Oct.add_plain] at this
      rw [this]
      simp
    · cases hx
      refine .inr fun cs t fr hc => ?_
      rw [hg] at hc
      cases hc
      rfl
theorem trues_put {w : World} {base k : Nat} {v : Value} (h : Trues w base v k) (hk : k < 1000) (hbase : base ≤ w.heap.size) (ty : TypeId) :
    ∃ v' w', (Builtin.append_ #[35, 35] ty #[v, .slice (some ⟨w.heap.size, 0, none⟩) 1 1]).run Try.prog (w.alloc (.cells #[.bool true] 4)) = .ok v' w' ∧ Trues w' base v' (k + 1) ∧ Below base w w' := by
  obtain ⟨i0, hi, hz0, hz1, hz2⟩ := info_parts bool_row
  have hn := heap_alloc_new w (.cells #[.bool true] 4)
  obtain ⟨v', w2, hrun, ho, hg, _⟩ := run_append_own (P := Try.prog) (w.alloc (.cells #[.bool true] 4)) base 35 ty 4 i0 (.bool false) 1 1 Try.underlying35 hi hz0 hz1 hz2 rfl (by decide) v k (List.replicate k (.bool true)) (World.ownsRow.alloc h _) ⟨w.heap.size, 0, none⟩ 1 1 [.bool true] rfl
    (fun j u hj => by
      cases j with
      | zero => simp at hj; subst hj; exact cell_of_row _ _ 0 _ _ _ hn
      | succ j => simp at hj)
    (fun u hu => by simp at hu; subst hu; rfl) (by unfold maxLen; omega) (by omega) (by simp; omega)
  refine ⟨v', w2, hrun, ?_, ?_⟩
  · show w2.ownsRow base 4 1 v' (k + 1) (List.replicate (k + 1) (.bool true))
    rw [List.replicate_succ']
    exact ho
  · exact ((Below.refl base w).alloc hbase _).grown hg (by simp; omega) (fun k hk => (World.ownsRow.lt h k hk).1)

/-! ### Arrays of sixteen bytes -/
structure Arr (w : World) (q : Nat) (f : Nat → UInt8) : Prop where
  is : ∃ arr : Array Value, w.heap[q]? = some (.cells arr 58 (0, 0)) ∧ arr.size = 16 ∧ ∀ j, j < 16 → arr[j]? = some (.int .u8 ((f j).toNat : Int))
theorem Arr.lt {w : World} {q : Nat} {f : Nat → UInt8} (h : Arr w q f) : q < w.heap.size := by obtain ⟨arr, h1, _⟩ := h.is; exact (Array.getElem?_eq_some_iff.1 h1).1
theorem Arr.older {w w' : World} {q : Nat} {f : Nat → UInt8} (h : Arr w q f) (b : Below w.heap.size w w') : Arr w' q f := by
  obtain ⟨arr, h1, h2, h3⟩ := h.is
  exact ⟨arr, (b.block q h.lt).trans h1, h2, h3⟩
theorem Arr.cell {w : World} {q : Nat} {f : Nat → UInt8} (h : Arr w q f) (j : Nat) (hj : j < 16) : w.cell? ⟨q, j, none⟩ = some (.int .u8 ((f j).toNat : Int)) := by
  obtain ⟨arr, h1, h2, h3⟩ := h.is
  exact (cell_of_row w q j _ _ _ h1).trans (h3 j hj)
theorem Arr.free {w : World} {q : Nat} {f : Nat → UInt8} (h : Arr w q f) (j : Nat) : w.frozen? ⟨q, j, none⟩ = false := by
  obtain ⟨arr, h1, _⟩ := h.is
  exact frozen_of_row w q j _ _ h1
theorem Arr.put {w : World} {q p : Nat} {d : UInt8} {f : Nat → UInt8} (h : Arr w q f) (hp : p < 16) : Arr (w.setCell ⟨q, p, none⟩ (.int .u8 (d.toNat : Int))) q (fun j => if p = j then d else f j) := by
  obtain ⟨arr, h1, h2, h3⟩ := h.is
  refine ⟨_, heap_setCell_same w q p _ _ _ h1, by simpa using h2, fun j hj => ?_⟩
  by_cases hjp : p = j
  · subst hjp
    simp [h2, hp]
  · rw [if_neg hjp, Array.getElem?_setIfInBounds_ne (by omega)]
    exact h3 j hj
theorem Arr.aside {w : World} {q q' p : Nat} {v : Value} {f : Nat → UInt8} (h : Arr w q f) (hne : q ≠ q') : Arr (w.setCell ⟨q', p, none⟩ v) q f := by
  obtain ⟨arr, h1, h2, h3⟩ := h.is
  exact ⟨arr, (heap_setCell_other _ _ _ _ hne).trans h1, h2, h3⟩
theorem Arr.same {w : World} {q : Nat} {f g : Nat → UInt8} (h : Arr w q f) (hfg : ∀ j, j < 16 → f j = g j) : Arr w q g := by
  obtain ⟨arr, h1, h2, h3⟩ := h.is
  exact ⟨arr, h1, h2, fun j hj => by rw [← hfg j hj]; exact h3 j hj⟩
theorem lastB_take (l : List (UInt8 × UInt8)) (k q : Nat) (hk : k < l.length) : lastB (l.take (k + 1)) q = if l[k].1.toNat % 16 = q then l[k].2 else lastB (l.take k) q := by rw [take_snoc l k hk, lastB_snoc]
theorem keep_alloc {w : World} {p : Addr} {v : Value} {o : Obj} (h : w.cell? p = some v) : (w.alloc o).cell? p = some v := (((Below.refl w.heap.size w).alloc (Nat.le_refl _) o).cell (World.block_lt_of_cell? w _ h)).trans h

/-- What says tells of a block that is full of x, asked with a list of two x. -/
theorem says_two {w : World} {base a : Nat} {s : St} (h : Is w base a s) (hg : s.gone = false) (p : Nat) (hp : p < s.n) (x : UInt8) (hs : s.says p = fill1 x) :
    Calls Try.prog 23 #[.pointer (some ⟨a, 0, none⟩), .int .i64 (p : Int), .slice (some ⟨w.heap.size, 0, none⟩) 2 2] (w.alloc (.cells #[.int .u8 (x.toNat : Int), .int .u8 (x.toNat : Int)] 5)) (BoolPost w true) := by
  have hn : Row (w.alloc (.cells #[.int .u8 (x.toNat : Int), .int .u8 (x.toNat : Int)] 5)) w.heap.size [x, x] := heap_alloc_new w _
  have b1 := (Below.refl w.heap.size w).alloc (Nat.le_refl _) (.cells #[.int .u8 (x.toNat : Int), .int .u8 (x.toNat : Int)] 5)
  have := says_law (h.below b1) hg (p : Int) p rfl hp (some ⟨w.heap.size, 0, none⟩) 2 2 [x, x] rfl (by decide) hn.has.told (fun _ y hy => by cases hy; exact (Array.getElem?_eq_some_iff.1 hn).1)
  rw [hs, show ((fill1 x).take 2 == [x, x]) = true by simp [fill1]] at this
  exact this.mono fun e w' ⟨he, hb⟩ => ⟨he, b1.trans (hb.mono b1.size)⟩
theorem Arr.drew {w : World} {q : Nat} {f : Nat → UInt8} (h : Arr w q f) : Arr w.drew q f := ⟨h.is⟩
end Go.Proofs.Ythcjhbjhghfhjaa.Dsk
