/- Words for numbers of 64 bits in memory, as Mem has them for bytes; what makes and copies such rows. No function of the program is named. -/
import Derived.Test.YtllopocekegljaaMemLow
namespace Go.Proofs.Ytllopocekegljaa.Lf
open Go.RowKit Go.Proofs.Ytllopocekegljaa.Oct
set_option linter.unusedVariables false

theorem u64_lt (c : UInt64) : c.toNat < 18446744073709551616 := c.toNat_lt

def nvals (ns : List UInt64) : List Value := ns.map fun c => .int .u64 (c.toNat : Int)
theorem length_nvals (ns : List UInt64) : (nvals ns).length = ns.length := by simp [nvals]

/-- The numbers ns stand in block b from cell o on. -/
def HasN (w : World) (b o : Nat) (ns : List UInt64) : Prop := ∀ i (h : i < ns.length), w.cell? ⟨b, o + i, none⟩ = some (.int .u64 (ns[i].toNat : Int))
def ToldN (w : World) (a : Option Addr) (ns : List UInt64) : Prop := ns = [] ∨ ∃ b o, a = some ⟨b, o, none⟩ ∧ HasN w b o ns
/-- Block g is ns, and nothing else; its type is T. -/
def RowN (w : World) (g : Nat) (T : TypeId) (ns : List UInt64) : Prop := w.heap[g]? = some (.cells (nvals ns).toArray T (0, 0))

theorem HasN.told {w : World} {b o : Nat} {ns : List UInt64} (h : HasN w b o ns) : ToldN w (some ⟨b, o, none⟩) ns := .inr ⟨b, o, rfl, h⟩
theorem HasN.below {w w' : World} {b o B : Nat} {ns : List UInt64} (h : HasN w b o ns) (hb : b < B) (k : Below B w w') : HasN w' b o ns := fun i hi => (k.cell hb).trans (h i hi)
theorem HasN.still {w w' : World} {b o : Nat} {ns : List UInt64} (h : HasN w b o ns) (S : Still w w') : HasN w' b o ns := fun i hi => (S.cell _).trans (h i hi)
theorem HasN.lt {w : World} {b o : Nat} {ns : List UInt64} (h : HasN w b o ns) (h0 : 0 < ns.length) : b < w.heap.size := World.block_lt_of_cell? w _ (h 0 h0)
theorem HasN.cut {w : World} {b o : Nat} {ns : List UInt64} (h : HasN w b o ns) (p s : Nat) : HasN w b (o + p) ((ns.drop p).take s) := by
  intro i hi
  simp only [List.length_take, List.length_drop] at hi
  have := h (p + i) (by omega)
  rw [Nat.add_assoc, this]
  simp
theorem HasN.pre {w : World} {b o : Nat} {ns : List UInt64} (h : HasN w b o ns) (s : Nat) : HasN w b o (ns.take s) := by
  have := h.cut 0 s
  rwa [Nat.add_zero, List.drop_zero] at this
theorem ToldN.below {w w' : World} {a : Option Addr} {ns : List UInt64} (h : ToldN w a ns) (k : Below w.heap.size w w') : ToldN w' a ns := by
  rcases h with h | ⟨b, o, rfl, h⟩
  · exact .inl h
  · by_cases h0 : 0 < ns.length
    · exact .inr ⟨b, o, rfl, h.below (h.lt h0) k⟩
    · exact .inl (List.eq_nil_of_length_eq_zero (by omega))
theorem ToldN.still {w w' : World} {a : Option Addr} {ns : List UInt64} (h : ToldN w a ns) (S : Still w w') : ToldN w' a ns := by
  rcases h with h | ⟨b, o, rfl, h⟩
  · exact .inl h
  · exact .inr ⟨b, o, rfl, h.still S⟩
theorem ToldN.pre {w : World} {a : Option Addr} {ns : List UInt64} (h : ToldN w a ns) (s : Nat) : ToldN w a (ns.take s) := by
  rcases h with h | ⟨b, o, rfl, h⟩
  · subst h; exact .inl (by simp)
  · exact .inr ⟨b, o, rfl, h.pre s⟩
theorem ToldN.has {w : World} {a : Option Addr} {ns : List UInt64} (h : ToldN w a ns) (h0 : 0 < ns.length) : ∃ b o, a = some ⟨b, o, none⟩ ∧ HasN w b o ns := by
  rcases h with h | h
  · subst h; simp at h0
  · exact h

theorem RowN.has {w : World} {g : Nat} {T : TypeId} {ns : List UInt64} (h : RowN w g T ns) : HasN w g 0 ns := by
  intro i hi
  unfold RowN at h
  simp [World.cell?, h, nvals, hi]
theorem RowN.free {w : World} {g : Nat} {T : TypeId} {ns : List UInt64} (h : RowN w g T ns) (i : Nat) : w.frozen? ⟨g, i, none⟩ = false := by
  unfold RowN at h
  simp [World.frozen?, h]
theorem RowN.lt {w : World} {g : Nat} {T : TypeId} {ns : List UInt64} (h : RowN w g T ns) : g < w.heap.size := (Array.getElem?_eq_some_iff.1 h).1
theorem RowN.still {w w' : World} {g : Nat} {T : TypeId} {ns : List UInt64} (h : RowN w g T ns) (hs : Still w w') : RowN w' g T ns := by
  unfold RowN at h ⊢
  rw [hs.heap, h]
theorem RowN.below {w w' : World} {g B : Nat} {T : TypeId} {ns : List UInt64} (h : RowN w g T ns) (hg : g < B) (k : Below B w w') : RowN w' g T ns := by
  unfold RowN at h ⊢
  rw [k.block g hg, h]
theorem RowN.set {w : World} {g : Nat} {T : TypeId} {ns : List UInt64} (h : RowN w g T ns) (i : Nat) (c : UInt64) : RowN (w.setCell ⟨g, i, none⟩ (.int .u64 (c.toNat : Int))) g T (ns.set i c) := by
  unfold RowN at h ⊢
  rw [heap_setCell_same w g i _ _ _ h]
  congr 2
  simp [nvals, List.map_set]
theorem RowN.other {w : World} {g q i : Nat} {T : TypeId} {ns : List UInt64} {v : Value} (h : RowN w g T ns) (hq : g ≠ q) : RowN (w.setCell ⟨q, i, none⟩ v) g T ns := by
  unfold RowN at h ⊢
  rw [heap_setCell_other _ _ _ _ (by exact hq), h]
theorem made_zerosN (n : Nat) : madeCells (Value.int .u64 0).cells n = (nvals (List.replicate n 0)).toArray := by
  apply Array.ext
  · simp [madeCells, nvals]
  · intro i h1 h2
    simp [madeCells, nvals, Value.cells, Nat.mod_one]

theorem run_make_nums (w : World) (k : IntKind) (n : Nat) (hn : n ≤ 1000000) :
    (Instr.makeSlice 22 (.int k (n : Int)) (.int k (n : Int))).run Try.prog w = .ok (.slice (some ⟨w.heap.size, 0, none⟩) n n) (w.alloc (.cells (nvals (List.replicate n 0)).toArray 25)) := by
  have i0 : (Try.prog.info? 25).map (fun i => (i.zero, i.size, i.bytes)) = some (some (.int .u64 0), 1, 8) := by kernel_rfl
  obtain ⟨i0, hi, hz0, hz1, hz2⟩ := info_parts i0
  have h := run_make (P := Try.prog) w 22 25 i0 (.int .u64 0) Try.underlying22 hi hz0 k k n n (by omega) (by omega) (by rw [hz2]; omega) (by omega)
  rw [hz1, Nat.mul_one, Int.toNat_natCast, made_zerosN] at h
  exact h

theorem alloc_rowN (w : World) (T : TypeId) (ns : List UInt64) : RowN (w.alloc (.cells (nvals ns).toArray T)) w.heap.size T ns := heap_alloc_new w _

theorem run_copy_nums (w : World) (ty T : TypeId) (g off dLen dCap : Nat) (cur ns : List UInt64) (R : RowN w g T cur) (a : Option Addr) (len cap : Nat) (hlen : ns.length = len) (hT : ToldN w a ns) (hd : len ≤ dLen) (hfit : off + len ≤ cur.length) :
    ∃ w', (Builtin.copy_ #[22, 22] ty #[.slice (some ⟨g, off, none⟩) dLen dCap, .slice a len cap]).run Try.prog w = .ok (goInt len) w' ∧ RowN w' g T (splice cur off ns) ∧ Below g w w' ∧ (∀ k, k ≠ g → w'.heap[k]? = w.heap[k]?) ∧ w'.heap.size = w.heap.size := by
  have hsz : (Try.prog.info? 25).map (·.size) = some 1 := by kernel_rfl
  rcases hT with rfl | ⟨b, o, rfl, hT⟩
  · obtain rfl : len = 0 := by simpa using hlen.symm
    refine ⟨w, run_copy_none (P := Try.prog) w _ _ ty 25 _ a dLen dCap 0 cap Try.underlying22 hsz (Nat.min_eq_left (Nat.zero_le _)), ?_, Below.refl _ _, fun _ _ => rfl, rfl⟩
    simpa [splice] using R
  · have h := run_copy_row (P := Try.prog) w 22 22 ty 25 g off dLen dCap ⟨b, o, none⟩ len cap (nvals cur).toArray T (nvals ns) Try.underlying22 hsz R
      (by rw [length_nvals, hlen]; exact (Nat.min_eq_left hd).symm)
      (fun j v hj => by
        have hjl : j < ns.length := by
          rcases Nat.lt_or_ge j ns.length with h | h
          · exact h
          · rw [List.getElem?_eq_none (by rw [length_nvals]; exact h)] at hj; cases hj
        have hv : v = .int .u64 (ns[j].toNat : Int) := by simpa [nvals, hjl] using hj.symm
        rw [hv, add_plain]
        exact hT j hjl)
      (by rw [length_nvals, hlen]; simpa [length_nvals] using hfit)
      (fun v hv => by simp [nvals] at hv; obtain ⟨c, _, rfl⟩ := hv; rfl)
    rw [length_nvals, hlen] at h
    refine ⟨_, h, ?_, ⟨rfl, rfl, rfl, by simp, fun k hk => setRow_other w g k _ (by omega)⟩, fun k hk => setRow_other w g k _ hk, by simp⟩
    unfold RowN
    rw [setRow_heap w g _ _ _ _ R]
    congr 3
    simp [splice, nvals, List.map_take, List.map_drop, hlen]

theorem u64_wf {n : Int} (h : (Lit.int .u64 n).wf = true) : 0 ≤ n ∧ n ≤ 18446744073709551615 := by
  have h2 : IntKind.u64.min ≤ n ∧ n ≤ IntKind.u64.max := by simpa [Lit.wf] using h
  exact h2

structure CameN (w : World) (a : Option Addr) (len cap : Nat) (ns : List UInt64) : Prop where
  hlen : ns.length = len
  told : ToldN w a ns
  le : len ≤ cap
  hcap : cap ≤ maxLen

theorem cameN {w : World} {a : Option Addr} {len cap : Nat} {zs : List Int} (h : IsRow .u64 w a len cap zs) : ∃ ns, CameN w a len cap ns := by
  rcases h with ⟨rfl, rfl, rfl, rfl⟩ | ⟨x, rfl, hl, hm, hz, hc, hw⟩
  · exact ⟨[], rfl, .inl rfl, Nat.le_refl _, Nat.zero_le _⟩
  · have hlen : ((zs.take len).map fun n => UInt64.ofNat n.toNat).length = len := by simp; omega
    refine ⟨_, hlen, ?_, hl, hm⟩
    rcases Nat.eq_zero_or_pos len with h0 | h0
    · left
      exact List.eq_nil_of_length_eq_zero (by rw [hlen, h0])
    · have h1 := hc 0 (by omega)
      obtain ⟨b, o, spot⟩ := x
      have hspot : spot = none := by simpa [Addr.add] using World.cell?_spot h1
      subst hspot
      refine .inr ⟨b, o, rfl, fun i hi => ?_⟩
      rw [hlen] at hi
      have h2 := hc i (by omega)
      rw [add_plain] at h2
      have hi2 : i < zs.length := by omega
      have h3 := u64_wf (hw zs[i] (List.getElem_mem hi2))
      rw [h2]
      have h4 : zs[i].toNat % 18446744073709551616 = zs[i].toNat := Nat.mod_eq_of_lt (by omega)
      simp [List.getD, hi2, h4]
      omega
end Go.Proofs.Ytllopocekegljaa.Lf

