/- What Write does. -/
import Derived.Test.YthcjhbjhghfhjaaDskF
import Derived.Deep.WholeRow
import Derived.Great.BuildSlice
namespace Go.Proofs.Ythcjhbjhghfhjaa.Dsk
open Go.RowKit Go.Proofs.Ythcjhbjhghfhjaa.Oct
set_option linter.unusedVariables false

theorem run_copy_into (w : World) (ty : TypeId) (g off dLen dCap : Nat) (cur : List Value) (t : TypeId) (R : w.heap[g]? = some (.cells cur.toArray t (0, 0))) (bs : List UInt8) (a : Option Addr) (len cap : Nat) (hlen : bs.length = len) (hT : Oct.Told w a bs) (hd : len ≤ dLen) (hfit : off + len ≤ cur.length) :
    ∃ w', (Builtin.copy_ #[33, 33] ty #[.slice (some ⟨g, off, none⟩) dLen dCap, .slice a len cap]).run Try.prog w = .ok (goInt len) w' ∧ w'.heap[g]? = some (.cells (splice cur off (vals bs)).toArray t (0, 0)) ∧ w'.heap.size = w.heap.size ∧ Below g w w' := by
  have hsz : (Try.prog.info? 5).map (·.size) = some 1 := by kernel_rfl
  rcases hT with rfl | ⟨b, o, rfl, hT⟩
  · obtain rfl : len = 0 := by simpa using hlen.symm
    refine ⟨w, run_copy_none (P := Try.prog) w _ _ ty 5 _ a dLen dCap 0 cap Try.underlying33 hsz (Nat.min_eq_left (Nat.zero_le _)), ?_, rfl, Below.refl _ _⟩
    simpa [splice, vals] using R
  · have h := run_copy_row (P := Try.prog) w 33 33 ty 5 g off dLen dCap ⟨b, o, none⟩ len cap cur.toArray t (vals bs) Try.underlying33 hsz R
      (by rw [length_vals, hlen]; exact (Nat.min_eq_left hd).symm)
      (fun j v hj => by
        have hjl : j < bs.length := by
          rcases Nat.lt_or_ge j bs.length with h | h
          · exact h
          · rw [List.getElem?_eq_none (by rw [length_vals]; exact h)] at hj; cases hj
        have hv : v = .int .u8 (bs[j].toNat : Int) := by simpa [vals, hjl] using hj.symm
        rw [hv, add_plain]
        exact hT j hjl)
      (by rw [length_vals, hlen]; simpa using hfit)
      (fun v hv => by obtain ⟨c, _, rfl⟩ := List.mem_map.1 hv; rfl)
    rw [length_vals, hlen] at h
    refine ⟨_, h, ?_, by simp, ⟨rfl, rfl, rfl, by simp, fun k hk => setRow_other w g k _ (by omega)⟩⟩
    rw [setRow_heap w g _ _ _ _ R]
    congr 3
    simp [splice, length_vals, hlen]

/-- The cells of a write. -/
def pc (p : Nat) (bs : List UInt8) : Array Value := (Value.int .i64 (p : Int) :: vals bs).toArray
def zc : Array Value := pc 0 (List.replicate 128 0)
def pz (p : Nat) : Array Value := pc p (List.replicate 128 0)
theorem write_info : (Try.prog.info? 91).map (fun i => (i.zero, i.size)) = some (some (.agg zc), 129) := by kernel_rfl
theorem write_row : (Try.prog.info? 91).map (fun i => (i.zero, i.size, i.bytes)) = some (some (.agg zc), 129, 136) := by kernel_rfl
theorem pc_size (p : Nat) (bs : List UInt8) : (pc p bs).size = bs.length + 1 := by simp [pc, length_vals]
theorem zc_size : zc.size = 129 := by simp [zc, pc_size]
theorem zc_ne : ¬ zc = #[] := fun h => by have := zc_size; rw [h] at this; cases this
theorem zc_set (p : Nat) : zc.setIfInBounds 0 (.int .i64 (p : Int)) = pz p := by
  unfold zc pz pc
  simp
theorem pc_one (p : Nat) (bs : List UInt8) : (pc p bs).all (·.oneCell') = true := by
  rw [Array.all_eq_true_iff_forall_mem]
  intro v hv
  simp only [pc, List.mem_toArray, List.mem_cons] at hv
  rcases hv with rfl | hv
  · rfl
  · obtain ⟨c, _, rfl⟩ := List.mem_map.1 hv
    rfl
theorem fill_one (cells : Array Value) (c : Array Value) (hc : c.size = 129) (h0 : cells.size = 129) : Instr.fill (fun i => some (i * 129, 129)) cells [(0, .agg c)] = some c := by
  obtain ⟨r, hr, hs, hk⟩ := Great.fill_dense (s := 129) (by decide) [.agg c] 0 cells (fun v hv => by simp at hv; subst hv; exact hc) (by simp [h0])
  simp only [List.zipIdx_cons, List.zipIdx_nil, List.map_cons, List.map_nil] at hr
  rw [hr]
  congr 1
  apply Array.ext
  · rw [hs, h0, hc]
  · intro i h1 h2
    have h3 := hk i
    rw [if_pos (by simp; omega), Array.getElem?_eq_getElem h1] at h3
    have h4 : i / 129 - 0 = 0 := by omega
    have h5 : i % 129 = i := by omega
    simp only [h4, h5, List.getElem?_cons_zero, Option.bind_some] at h3
    have h6 : (Value.agg c).cells = c := rfl
    rw [h6, Array.getElem?_eq_getElem h2] at h3
    exact Option.some.inj h3
theorem still_load_row {P : Program} {o : Oper} {a : Act} {w : World} {next : Act → Prop} (ty : TypeId) (x : Operand) (ho : o.op = .load ty x)
    (g : Nat) (hx : a.eval x = .pointer (some ⟨g, 0, none⟩)) (t : TypeId) (cs : Array Value) (fr : Nat × Nat) (d : TypeDesc) (hg : w.heap[g]? = some (.cells cs t fr))
    (hu : P.underlying ty = some d) (hd : (match d with | .struct _ | .array _ _ => true | _ => false) = true) (hi : (P.info? ty).map (·.size) = some cs.size)
    (h : next (a.put o.dst (.agg cs))) : o.still P a w next := by
  unfold Oper.still execOp
  simp only [ho, hx, Instr.loadAt, Instr.sureAddr, Sem.run_bind, Sem.run_pure, Result.andThen_ok, run_loadVar_row w g t ty cs fr d hg hu hd hi]
  exact (Oper.stillUpon_value o a w next _).mpr h
theorem wpAny_tail {P : Program} {md : Region.Mode} {ops : Array Oper} {Q' : Exit → Act → World → Prop} {listed : Array Bool} {a : Act} {w : World} {fuel : Nat} (k : Nat) (hfuel : fuel = ops.size - k)
    (hB : Region.seqB md ops (ops.size - k) k listed = true) (h : wpList P ops Q' (ops.toList.drop k) a w) : wpAny P md ops Q' fuel listed a w := by
  subst hfuel
  have h2 := wpAny_of_seq (P := P) (md := md) (ops.toList.drop k) k listed a w (fun j => by simp) (by simpa using hB) h
  simpa using h2
theorem if_wanted {c : Bool} {A B : Prop} (h : c = true) (a : A) : if c = true then A else B := by rw [if_pos h]; exact a
def St.wrote (s : St) (p : Nat) (bs : List UInt8) : St := { s with W := s.W ++ [(p, bs)] }
theorem own_ne {w : World} {base e size n a : Nat} {v : Value} {xs : List Value} {cs : Array Value} {t : TypeId} {fr : Nat × Nat} (h : w.ownsRow base e size v n xs) (ha : w.heap[a]? = some (.cells cs t fr)) (hne : e ≠ t) : v.ownBlock ≠ some a := by
  rcases h.2 with ⟨rfl, _⟩ | ⟨g, cap, cur, rfl, _, h1, _⟩
  · simp [Value.ownBlock]
  · intro e
    have : g = a := by simpa [Value.ownBlock] using e
    subst this
    rw [ha] at h1
    cases h1
    exact hne rfl
theorem Turned.grown {base : Nat} {w w' : World} {v : Value} {n size : Nat} {xs : List Value} (h : w.ownsRow base 91 size v n xs) (hg : w.grownBy w' v.ownBlock) : Turned dT base w w' :=
  ⟨hg.os, hg.tape, hg.output, hg.size, fun k hk hc => hg.block k hk fun e => by
    rcases h.2 with ⟨rfl, _⟩ | ⟨g, cap, cur, rfl, hb, h1, _⟩
    · cases e
    · cases e
      rcases hc with hc | hc
      · exact absurd hb (Nat.not_le.2 hc)
      · have := hc _ _ _ h1
        cases this⟩
theorem At.wrote {w w' : World} {base a bb bc : Nat} {wv v' : Value} {s : St} (h : At w base a bb bc wv s) (p : Nat) (bs : List UInt8) (hp : p < s.n) (hl : bs.length = 128) (hf : s.W.length < 1000000)
    (hown : w'.ownsRow base 91 129 v' (s.W.length + 1) (wcells s.W ++ (pc p bs).toList)) (hg : w.grownBy w' wv.ownBlock) :
    At (w'.setCell ⟨a, 1, none⟩ v') base a bb bc v' (s.wrote p bs) ∧ w'.cell? ⟨a, 1, none⟩ = some wv ∧ w'.frozen? ⟨a, 1, none⟩ = false ∧ Turned dT base w (w'.setCell ⟨a, 1, none⟩ v') := by
  have hh := (hg.block a h.lt (fun e => h.ne_waits e.symm)).trans h.head
  refine ⟨⟨h.lo, heap_setCell_same w' a 1 _ _ v' hh, ?_, ?_, ?_⟩, cell_of_row w' a 1 _ _ _ hh, by simp [World.frozen?, hh], (Turned.grown h.waits hg).setCell h.lo hh rfl _⟩
  · refine own_same (own_same h.blocks fun k hb hl => hg.block k hl fun e => ?_) fun k hb _ => heap_setCell_other _ _ _ _ (by have := h.ne_blocks; cases hb; exact this)
    rcases h.blocks.2 with ⟨h0, _⟩ | ⟨g, cap, cur, hv, _, h1, _⟩
    · cases h0
    · cases hv
      cases hb
      exact own_ne h.waits h1 (by decide) e.symm
  · have hw := own_same (w' := w'.setCell ⟨a, 1, none⟩ v') hown fun k hb _ => heap_setCell_other _ _ _ _ (by
      rintro rfl
      exact own_ne hown hh (by decide) hb)
    have e1 : (s.wrote p bs).W.length = s.W.length + 1 := by simp [St.wrote]
    have e2 : wcells (s.wrote p bs).W = wcells s.W ++ (pc p bs).toList := by
      show wcells (s.W ++ [(p, bs)]) = _
      rw [wcells_snoc]
      rfl
    rw [e1, e2]
    exact hw
  · refine ⟨h.ok.lo, h.ok.hi, h.ok.len, fun x hx => ?_, ?_, h.ok.left⟩
    · have hx : x ∈ s.W ++ [(p, bs)] := hx
      rcases List.mem_append.1 hx with hx | hx
      · exact h.ok.wait x hx
      · have : x = (p, bs) := by simpa using hx
        subst this
        exact ⟨hp, hl⟩
    · show (s.W ++ [(p, bs)]).length ≤ 1000000
      simp
      omega

def WritePost (w : World) (base a bb bc : Nat) (s' : St) (e : Ending) (w' : World) : Prop := ∃ wv', e = .returned (.int .i64 0) ∧ At w' base a bb bc wv' s' ∧ Turned dT base w w'
end Go.Proofs.Ythcjhbjhghfhjaa.Dsk
