/- A page torn over another: which of it is a super's page; append onto a slice that Again made. -/
import Derived.Test.YtkhimoclikhlaaaSuR
import Derived.ArgAppend
namespace Go.Proofs.Ytkhimoclikhlaaa.Su
open Go.RowKit Go.Shelf Go.Proofs.Ytkhimoclikhlaaa.Oct Go.Proofs.Ytkhimoclikhlaaa.Sf
set_option linter.unusedVariables false

/-! ### The page's first and last generation -/
theorem page_cbody (s : Sup) : ((supPage s).drop 1).take 123 = cbody (cont s) := by
  have h := page_body 6 (cbody (cont s)) (by rw [length_cbody]; exact Nat.le_refl _)
  rw [length_cbody, Nat.sub_self, List.replicate_zero, List.append_nil] at h
  exact h
theorem gen_first (s : Sup) : ((supPage s).drop 1).take 8 = bytesOf (nth s 0) 8 := by
  have h := cbody_get (cont s) 0 (by decide)
  rw [← page_cbody s] at h
  simpa [pos, size, cont, List.take_take] using h
theorem gen_last (s : Sup) : ((supPage s).drop 116).take 8 = bytesOf (nth s 0) 8 := by
  have h := cbody_get (cont s) 18 (by decide)
  rw [← page_cbody s] at h
  simpa [pos, size, cont, List.drop_take, List.take_take, List.drop_drop] using h
def torn (p q : List UInt8) (c : Nat) : List UInt8 := p.take c ++ q.drop c
theorem length_torn {p q : List UInt8} (hp : p.length = 128) (hq : q.length = 128) (c : Nat) (hc : c ≤ 128) : (torn p q c).length = 128 := by unfold torn; simp; omega
theorem torn_take {p q : List UInt8} {c k : Nat} (hc : c ≤ p.length) (h : k ≤ c) : (torn p q c).take k = p.take k := by
  unfold torn
  rw [List.take_append_of_le_length (by rw [List.length_take]; omega), List.take_take, Nat.min_eq_left h]
theorem torn_drop {p q : List UInt8} {c k : Nat} (hc : c ≤ p.length) (h : c ≤ k) : (torn p q c).drop k = q.drop k := by
  unfold torn
  rw [List.drop_append, List.drop_eq_nil_of_le (by rw [List.length_take]; omega), List.nil_append, List.length_take, Nat.min_eq_left hc, List.drop_drop]
  congr 1; omega
theorem gen_inj {m n : Nat} (hm : m < 18446744073709551616) (hn : n < 18446744073709551616) (h : bytesOf m 8 = bytesOf n 8) : m = n := by
  have := congrArg num h
  rw [num_bytesOf, num_bytesOf] at this
  omega
theorem glue {l m : List UInt8} (h1 : l.take 1 = m.take 1) (h2 : (l.drop 1).take 8 = (m.drop 1).take 8) (h3 : l.drop 9 = m.drop 9) : l = m := by
  have k : ∀ l : List UInt8, l = l.take 1 ++ ((l.drop 1).take 8 ++ l.drop 9) := fun l => by
    have := List.take_append_drop 8 (l.drop 1)
    rw [List.drop_drop] at this
    rw [show (9 : Nat) = 1 + 8 from rfl, this, List.take_append_drop]
  rw [k l, k m, h1, h2, h3]
theorem head_take (s : Sup) : (supPage s).take 1 = [6] := rfl
/-- What is torn is a page only where it is the one, or the other. -/
theorem torn_page {s t : Sup} (hs : Ok s) (ht : Ok t) (hne : nth s 0 ≠ nth t 0) (fs : Fit s) (ft : Fit t) (c : Nat) (hc : c ≤ 128) (h : Holds (torn (supPage t) (supPage s) c)) :
    torn (supPage t) (supPage s) c = supPage t ∨ torn (supPage t) (supPage s) c = supPage s := by
  have lp := length_supPage t
  have lq := length_supPage s
  have hcp : c ≤ (supPage t).length := by omega
  obtain ⟨x, hx⟩ : ∃ x, supPage x = torn (supPage t) (supPage s) c := ⟨_, h.2.2.2⟩
  have hA := gen_first x
  have hB := gen_last x
  rw [hx] at hA hB
  have hg := h.2.1
  have hgt := (holds_page ht ft).2.1
  have hl := length_torn lp lq c hc
  by_cases h1 : c ≤ 116
  · rw [torn_drop hcp h1, gen_last s] at hB
    by_cases h2 : c ≤ 9
    · right
      have e1 : ((torn (supPage t) (supPage s) c).drop 1).take 8 = ((supPage s).drop 1).take 8 := by rw [hA, ← hB, gen_first s]
      have e0 : (torn (supPage t) (supPage s) c).take 1 = (supPage s).take 1 := by
        rw [head_take]
        by_cases c0 : c = 0
        · subst c0; unfold torn; rfl
        · rw [torn_take hcp (by omega), head_take]
      have e9 := torn_drop (q := supPage s) (k := 9) hcp h2
      exact glue e0 e1 e9
    · exfalso
      have e := congrArg (fun l => (l.drop 1)) (torn_take (p := supPage t) (q := supPage s) (k := 9) hcp (by omega))
      simp only [List.drop_take, show 9 - 1 = 8 from rfl] at e
      rw [hA, gen_first t] at e
      exact hne (gen_inj (hs.lt 0) (ht.lt 0) (hB.trans e))
  · left
    have e := congrArg (fun l => (l.drop 1)) (torn_take (p := supPage t) (q := supPage s) (k := 9) hcp (by omega))
    simp only [List.drop_take, show 9 - 1 = 8 from rfl] at e
    rw [hA, gen_first t] at e
    have e116 := torn_take (p := supPage t) (q := supPage s) (k := 116) hcp (by omega)
    have k124 : (torn (supPage t) (supPage s) c).take 124 = (supPage t).take 124 := by
      have a1 : ∀ l : List UInt8, l.take 124 = l.take 116 ++ (l.drop 116).take 8 := fun l => by rw [show 124 = 116 + 8 from rfl, List.take_add]
      rw [a1, a1 (supPage t), e116, hB, gen_last t, e]
    have d124 : (torn (supPage t) (supPage s) c).drop 124 = (supPage t).drop 124 := by
      unfold Good at hg hgt
      refine num_inj _ _ (by rw [List.length_drop, List.length_drop, hl, lp]) ?_
      rw [hg, hgt, k124]
    rw [← List.take_append_drop 124 (torn (supPage t) (supPage s) c), k124, d124, List.take_append_drop]

/-! ### Again, and append onto what it made -/
/-- A slice from a block's head on; behind its bytes cells that may be written. -/
structure Spare (w : World) (g cap : Nat) (bs : List UInt8) : Prop where
  has : Has w g 0 bs
  lt : g < w.heap.size
  len : bs.length ≤ cap
  most : cap ≤ maxLen
  room : ∀ j, bs.length ≤ j → j < cap → (w.cell? ⟨g, j, none⟩).isSome = true ∧ w.frozen? ⟨g, j, none⟩ = false
theorem Spare.below {w w' : World} {g cap : Nat} {bs : List UInt8} (h : Spare w g cap bs) (k : Below w.heap.size w w') : Spare w' g cap bs :=
  ⟨fun i hi => (k.cell (p := ⟨g, 0 + i, none⟩) h.lt).trans (h.has i hi), Nat.lt_of_lt_of_le h.lt k.size, h.len, h.most, fun j h1 h2 => by
    rw [k.cell (p := ⟨g, j, none⟩) h.lt, k.frozen (p := ⟨g, j, none⟩) h.lt]; exact h.room j h1 h2⟩
theorem setCells_below (B b : Nat) (hb : B ≤ b) : ∀ (vs : List Value) (o : Nat) (w : World), Below B w (w.setCells b o vs)
  | [], o, w => Below.refl _ _
  | v :: vs, o, w => ((Below.refl B w).setCell (p := ⟨b, o, none⟩) hb v).trans (setCells_below B b hb vs (o + 1) (w.setCell ⟨b, o, none⟩ v))
theorem bytes_spare (w : World) (bs : List UInt8) (hl : bs.length ≤ maxLen) : Spare (Lib.bytesWorld w 5 ⟨bs.toArray⟩) w.heap.size (grownCap w bs.length 0 5) bs := by
  have F := fresh_bytes w 5 bs hl
  refine ⟨F.has, F.hi, F.len, F.cap, fun j h1 h2 => ?_⟩
  have hsz : (Lib.bytesCells w 5 ⟨bs.toArray⟩).size = grownCap w bs.length 0 5 := by
    have := F.len
    simp [Lib.bytesCells, ByteArray.size]
    omega
  constructor
  · simp only [World.cell?, Lib.bytesWorld_at_new]
    simp [hsz, h2]
  · simp only [World.frozen?, Lib.bytesWorld_at_new]
    simp
    omega
theorem again_spare (a : Option Addr) (len cap : Nat) (bs : List UInt8) (hlen : bs.length = len) (w : World) (hl : len ≤ maxLen) (hb : Oct.Told w a bs) :
    Calls Try.prog 11 #[.slice a len cap] w fun e w' => ∃ g c, e = .returned (.slice (some ⟨g, 0, none⟩) len c) ∧ Spare w' g c bs ∧ w.heap.size ≤ g ∧ Below w.heap.size w w' := by
  subst hlen
  have k1 := conv_told (P := Try.prog) hb cap 28 9 5 Try.underlying28 Try.underlying5 Try.underlying9
  have k2 := Lib.run_convert_string_bytes (P := Try.prog) w 9 28 5 ⟨bs.toArray⟩ Try.underlying9 Try.underlying28 Try.underlying5
  have F := Lib.hid (And.intro (fresh_bytes w 5 bs hl) (bytes_spare w bs hl))
  clear hb
  generalize Lib.bytesWorld w 5 ⟨bs.toArray⟩ = w1 at k2 F
  rw [show (ByteArray.mk bs.toArray).size = bs.length from rfl] at k2
  go_enter Try.func11, Try.ntmps11
  go_wp2
  go_ret
  exact ⟨_, _, rfl, F.out.2, F.out.1.lo, F.out.1.below⟩
theorem append_spare (w : World) (ty : TypeId) (B g cap : Nat) (xs ys : List UInt8) (h : Spare w g cap xs) (x : Addr) (len c n : Nat) (hn : xs.length = n) (hlen : ys.length = len) (hT : Oct.Told w (some x) ys) (hB : B ≤ g) (hB2 : B ≤ w.heap.size) (hsz : n + len ≤ 1000) :
    ∃ A c' w', (Builtin.append_ #[28, 28] ty #[.slice (some ⟨g, 0, none⟩) n cap, .slice (some x) len c]).run Try.prog w = .ok (.slice A (n + len) c') w' ∧ Bts w' A (n + len) c' (xs ++ ys) ∧ Below B w w' := by
  subst hn hlen
  obtain ⟨i0, hi, hz0, hz1, hz2⟩ := info_parts byte_info
  have hnews : ∀ j u, (vals ys)[j]? = some u → w.cell? (x.add j) = some u := fun j u hj => by
    have hjl : j < ys.length := by
      rcases Nat.lt_or_ge j ys.length with h | h
      · exact h
      · rw [List.getElem?_eq_none (by rw [length_vals]; exact h)] at hj; cases hj
    have hv : u = .int .u8 (ys[j].toNat : Int) := by simpa [vals, hjl] using hj.symm
    rcases hT with h | ⟨b, o, h, k⟩
    · subst h; simp at hjl
    · cases h
      rw [hv, add_plain]
      exact k j hjl
  have hone : ∀ u ∈ vals ys, u.oneCell' = true := fun u hu => by simp [vals] at hu; obtain ⟨c, _, rfl⟩ := hu; rfl
  by_cases hr : xs.length + ys.length ≤ cap
  · have hrm : ∀ j, j < (vals ys).length → (w.cell? ⟨g, 0 + xs.length * i0.size + j, none⟩).isSome = true ∧ w.frozen? ⟨g, 0 + xs.length * i0.size + j, none⟩ = false := fun j hj => by
      rw [length_vals] at hj
      rw [hz1, Nat.mul_one, Nat.zero_add]
      exact h.room _ (by omega) (by omega)
    have hrun := run_append_room_cells (P := Try.prog) w 28 ty 5 i0 Try.underlying28 hi g 0 xs.length cap x ys.length c (vals ys) (by rw [length_vals, hz1, Nat.mul_one]) hnews hone hr (fun j hj => (hrm j hj).1) (fun j hj => (hrm j hj).2)
    rw [hz1, Nat.mul_one, Nat.zero_add] at hrun
    refine ⟨_, _, _, hrun, ⟨by rw [List.length_append], Has.told ?_, hr, h.most⟩, setCells_below B g hB _ _ _⟩
    refine Has.join (fun i hi => ?_) (fun i hi => ?_)
    · rw [World.cell?_setCells_out _ _ _ _ _ (fun _ _ => .inl (by show 0 + i < _; omega))]
      exact h.has i hi
    · rw [Nat.zero_add]
      have := World.cell?_setCells_in g (vals ys) xs.length w (fun j hj => by have := (hrm j hj).1; rwa [hz1, Nat.mul_one, Nat.zero_add] at this) i (by rw [length_vals]; exact hi)
      rw [this]
      simp [vals]
  · obtain ⟨v', w', hrun, ho, hg⟩ := run_append_arg_grows (P := Try.prog) w 28 ty 5 i0 (.int .u8 0) 1 1 Try.underlying28 hi hz0 hz1 hz2 rfl (by omega) ⟨g, 0, none⟩ xs.length cap (vals xs) (by rw [length_vals, Nat.mul_one])
      (fun j u hj => by
        have hjl : j < xs.length := by
          rcases Nat.lt_or_ge j xs.length with h | h
          · exact h
          · rw [List.getElem?_eq_none (by rw [length_vals]; exact h)] at hj; cases hj
        have hv : u = .int .u8 (xs[j].toNat : Int) := by simpa [vals, hjl] using hj.symm
        rw [hv, add_plain]
        exact h.has j hjl) x ys.length c (vals ys) (by rw [length_vals, Nat.mul_one]) hnews (by omega) (by unfold maxLen; omega) (by omega)
    have ho' : Oct.Own w' w.heap.size v' (xs ++ ys) := by
      unfold Oct.Own
      rw [List.length_append, show vals (xs ++ ys) = vals xs ++ vals ys by simp [vals]]
      exact ho
    obtain ⟨A, c', rfl, hT', h1, h2, -⟩ := ho'.slice
    refine ⟨A, c', w', by rw [hrun, List.length_append], ⟨by rw [List.length_append], hT', by rw [← List.length_append]; exact h1, h2⟩, ⟨hg.os, hg.tape, hg.output, hg.size, fun k hk => hg.block k (by omega) (by simp)⟩⟩
theorem wp_append_run {P : Program} {w : World} {o : Oper} {a : Act} {K : Act → World → Prop} {Q : Exit → Act → World → Prop} (s x : Operand) (t : TypeId)
    (ho : o.op = .call { callee := .builtin .append, args := #[s, x], argTypes := #[t, t] }) (v1 v2 : Value) (hs : a.eval s = v1) (hx : a.eval x = v2) (v' : Value) (w' : World)
    (hrun : (Builtin.append_ #[t, t] o.type #[v1, v2]).run P w = .ok v' w') (h : K (a.put o.dst v') w') : o.wp P a w K Q := by
  unfold Oper.wp
  simp [execOp, ho, resolve, invoke, builtin, hs, hx, hrun, Result.andThen]
  exact h
end Go.Proofs.Ytkhimoclikhlaaa.Su
