/- What lay and through do; what Flush and Crash do. -/
import Derived.Test.YthcjhbjhghfhjaaDskC
import Derived.StillTailTactics
namespace Go.Proofs.Ythcjhbjhghfhjaa.Dsk
open Go.RowKit Go.Proofs.Ythcjhbjhghfhjaa.Oct
set_option linter.unusedVariables false

theorem take_splice {α : Type} (L : List α) (off m : Nat) (cs : List α) (h : off + cs.length ≤ m) (hL : off + cs.length ≤ L.length) : (splice L off cs).take m = splice (L.take m) off cs := by
  unfold splice
  rw [List.take_append, List.take_append, List.take_take, List.take_take, List.length_take, List.drop_take, List.take_of_length_le (l := cs) (by omega)]
  rw [show min m off = off by omega, show min off m = off by omega, show min off L.length = off by omega, show m - off - cs.length = m - (off + cs.length) by omega]
theorem map_splice {α β : Type} (f : α → β) (L : List α) (off : Nat) (cs : List α) : (splice L off cs).map f = splice (L.map f) off (cs.map f) := by
  simp [splice, List.map_take, List.map_drop]

def St.lay (s : St) (p : Nat) (cs : List UInt8) : St := { s with B := splice s.B (p * 128) cs }
theorem run_copy_lay {w : World} {base a bb bc : Nat} {wv : Value} {s : St} (h : At w base a bb bc wv s) (ty : TypeId) (p : Nat) (hp : p < s.n) (n : Nat) (hn : n ≤ 128) (bs : List UInt8) (hl : bs.length = 128) (g o : Nat) (hb : Has w g o bs) :
    ∃ w', (Builtin.copy_ #[33, 33] ty #[.slice (some ⟨bb, p * 128, none⟩) n 128, .slice (some ⟨g, o, none⟩) n 128]).run Try.prog w = .ok (goInt n) w' ∧ At w' base a bb bc wv (s.lay p (bs.take n)) ∧ Turned dT base w w' := by
  have hsz : (Try.prog.info? 5).map (·.size) = some 1 := by kernel_rfl
  obtain ⟨hx, h0 | ⟨g', cap', cur, hv, hbase, hg, h1, h2, hcs, htake⟩⟩ := h.blocks
  · cases h0.1
  cases hv
  have hln : (bs.take n).length = n := by rw [List.length_take, hl]; omega
  have hB := h.ok.len
  have hr := run_copy_row (P := Try.prog) w 33 33 ty 5 bb (p * 128) n 128 ⟨g, o, none⟩ n 128 cur 89 (vals (bs.take n)) Try.underlying33 hsz hg
    (by rw [length_vals, hln]; exact (Nat.min_self n).symm)
    (fun j v hj => by
      have hjl : j < (bs.take n).length := by
        rcases Nat.lt_or_ge j (bs.take n).length with h | h
        · exact h
        · rw [List.getElem?_eq_none (by rw [length_vals]; exact h)] at hj; cases hj
      have hv : v = .int .u8 (((bs.take n)[j]).toNat : Int) := by
        have h3 : (vals (bs.take n))[j]? = some (.int .u8 (((bs.take n)[j]).toNat : Int)) := by
          unfold vals
          rw [List.getElem?_map, List.getElem?_eq_getElem hjl]
          rfl
        rw [h3] at hj
        exact (Option.some.inj hj).symm
      rw [hv, add_plain]
      exact hb.pre n j hjl)
    (by rw [length_vals, hln, hcs]; omega)
    (fun v hv => by obtain ⟨c, _, rfl⟩ := List.mem_map.1 hv; rfl)
  rw [length_vals, hln] at hr
  have hnb := h.ne_blocks
  have hnw : wv.ownBlock ≠ some bb := by
    rcases h.waits.2 with ⟨rfl, _⟩ | ⟨g2, cap2, cur2, rfl, _, h3, _⟩
    · simp [Value.ownBlock]
    · intro e
      have : g2 = bb := by simpa [Value.ownBlock] using e
      subst this
      rw [hg] at h3
      cases h3
  have hsr := setRow_heap w bb cur ((cur.toList.take (p * 128) ++ vals (bs.take n) ++ cur.toList.drop (p * 128 + n)).toArray) 89 (0, 0) hg
  have hcell : cur.toList.take (p * 128) ++ vals (bs.take n) ++ cur.toList.drop (p * 128 + n) = splice cur.toList (p * 128) (vals (bs.take n)) := by simp [splice, length_vals, hln]
  rw [hcell] at hr hsr
  refine ⟨_, hr, ⟨h.lo, ?_, ?_, ?_, ?_⟩, ⟨rfl, rfl, rfl, by simp, fun k hk hk2 => ?_⟩⟩
  · rw [setRow_other w bb a _ (fun e => hnb e.symm)]
    exact h.head
  · refine ⟨?_, .inr ⟨bb, bc, _, rfl, hbase, hsr, h1, h2, ?_, ?_⟩⟩
    · show (vals (splice s.B (p * 128) (bs.take n))).length = s.n * 128
      rw [length_vals, length_splice _ _ _ (by rw [hln]; omega)]
      exact hB
    · rw [List.size_toArray, length_splice _ _ _ (by rw [length_vals, hln, Array.length_toList, hcs]; omega), Array.length_toList, hcs]
    · show (splice cur.toList (p * 128) (vals (bs.take n))).take (s.n * 128) = vals (splice s.B (p * 128) (bs.take n))
      rw [take_splice _ _ _ _ (by rw [length_vals, hln]; omega) (by rw [length_vals, hln, Array.length_toList, hcs]; omega), htake]
      exact (map_splice _ _ _ _).symm
  · exact own_same h.waits fun k hk _ => setRow_other w bb k _ (fun e => hnw (by rw [hk, e]))
  · refine ⟨h.ok.lo, h.ok.hi, ?_, h.ok.wait, h.ok.few, h.ok.left⟩
    show (splice s.B (p * 128) (bs.take n)).length = s.n * 128
    rw [length_splice _ _ _ (by rw [hln]; omega)]
    exact hB
  · refine setRow_other w bb k _ (fun e => ?_)
    subst e
    rcases hk2 with h3 | h3
    · omega
    · have := h3 _ _ _ hg
      cases this
theorem At.drew {w : World} {base a bb bc : Nat} {wv : Value} {s : St} (h : At w base a bb bc wv s) : At w.drew base a bb bc wv s := h.same fun _ _ _ _ _ _ _ _ => rfl
theorem Turned.drew {T : TypeId → Bool} {base : Nat} {a w : World} (h : Turned T base a w) : Turned T base a w.drew := h.trans ⟨rfl, rfl, rfl, Nat.le_refl _, fun _ _ _ => rfl⟩
set_option maxRecDepth 100000 in
set_option maxHeartbeats 400000 in
theorem lay_at {w : World} {base a bb bc : Nat} {wv : Value} {s : St} (h : At w base a bb bc wv s) (g o p n : Nat) (bs : List UInt8) (hl : bs.length = 128) (hn : n ≤ 128) (hp : p < s.n) (hc : w.cell? ⟨g, o, none⟩ = some (.int .i64 (p : Int))) (hb : Has w g (o + 1) bs) :
    Calls Try.prog 38 #[.pointer (some ⟨a, 0, none⟩), .pointer (some ⟨g, o, none⟩), .int .i64 (n : Int)] w fun e w' => e = .returned (.tuple #[]) ∧ At w' base a bb bc wv (s.lay p (bs.take n)) ∧ Turned dT base w w' := by
  obtain ⟨hbc1, hbc2⟩ := h.cap
  have hn4 := h.ok.hi
  unfold maxLen at hbc2
  have c0 := h.c0
  have hp2 : (p : Int) < (s.n : Int) := by omega
  have hn2 : (n : Int) ≤ 128 := by omega
  obtain ⟨w2, hcopy, A2, T2⟩ := run_copy_lay h.drew 3 p hp n hn bs hl g (o + 1) hb
  have HA := Lib.hid A2
  have HT := Lib.hid (((Turned.refl dT base w).drew).trans T2)
  clear h A2 T2 hb hl
  go_enter Try.func38, Try.ntmps38
  go_still_tail 16, (by kernel_rfl)
  change wpList _ _ _ _ _ w.drew
  go_wp2_with fail
  go_end0
  exact ⟨rfl, HA.out, HT.out⟩

/-! ### through -/
/-- A slice of flags is told. -/
def Flags (w : World) (A : Option Addr) (ks : List Bool) : Prop := ks = [] ∨ ∃ b o, A = some ⟨b, o, none⟩ ∧ ∀ i (h : i < ks.length), w.cell? ⟨b, o + i, none⟩ = some (.bool ks[i])
theorem Flags.below {w w' : World} {A : Option Addr} {ks : List Bool} {B : Nat} (h : Flags w A ks) (hb : Below w.heap.size w w') : Flags w' A ks := by
  rcases h with h | ⟨b, o, h, k⟩
  · exact .inl h
  · refine .inr ⟨b, o, h, fun i hi => ?_⟩
    have := k i hi
    exact (hb.cell (p := ⟨b, o + i, none⟩) (World.block_lt_of_cell? w _ this)).trans this
def thr (ks : List Bool) (torn : Int) (cut i : Nat) : Nat := if (i : Int) = torn then cut else if ks[i]? = some true then 128 else 0
def ThrPost (w : World) (n : Nat) (e : Ending) (w' : World) : Prop := e = .returned (.int .i64 (n : Int)) ∧ Below w.heap.size w w'
theorem through_at (A : Option Addr) (len cap : Nat) (ks : List Bool) (hlen : ks.length = len) (torn : Int) (cut i : Nat) (w : World) (hm : len ≤ maxLen) (hk : Flags w A ks) :
    Calls Try.prog 39 #[.agg #[.slice A len cap, .int .i64 torn, .int .i64 (cut : Int)], .int .i64 (i : Int)] w (ThrPost w (thr ks torn cut i)) := by
  unfold maxLen at hm
  have B1 := Lib.hid ((Below.refl w.heap.size w).alloc (Nat.le_refl _) (.cells #[.slice A len cap, .int .i64 torn, .int .i64 (cut : Int)] 37))
  have HL := Lib.hid hlen
  have HK := Lib.hid (hk.below (B := 0) B1.out)
  clear hlen hk
  by_cases h1 : (i : Int) = torn
  · have HT := Lib.hid (show thr ks torn cut i = cut by unfold thr; rw [if_pos h1])
    have e1 : ((i : Int) == torn) = true := by simpa using h1
    clear h1
    go_enter Try.func39, Try.ntmps39
    go_wp2
    go_ret
    exact ⟨by rw [HT.out]; rfl, B1.out⟩
  · have e1 : ((i : Int) == torn) = false := by simpa using h1
    by_cases h2 : i < len
    · have h2i : (i : Int) < (len : Int) := by omega
      have hne : ks ≠ [] := fun h => by have := HL.out; rw [h] at this; simp at this; omega
      obtain ⟨b, o, hA, hc⟩ := HK.out.resolve_left hne
      have hc := hc i (by rw [HL.out]; exact h2)
      subst hA
      have hki : ks[i]? = some (ks[i]'(by rw [HL.out]; exact h2)) := List.getElem?_eq_getElem _
      have HT := Lib.hid (show thr ks torn cut i = if ks[i]'(by rw [HL.out]; exact h2) = true then 128 else 0 by unfold thr; rw [if_neg h1, hki]; simp)
      clear h1 hki HK hne
      generalize ks[i]'(by rw [HL.out]; exact h2) = f at hc HT
      cases f with
      | true =>
        go_enter Try.func39, Try.ntmps39
        go_wp2
        go_ret
        exact ⟨by rw [HT.out]; rfl, B1.out⟩
      | false =>
        go_enter Try.func39, Try.ntmps39
        go_wp2
        go_ret
        exact ⟨by rw [HT.out]; rfl, B1.out⟩
    · have h2i : decide ((i : Int) < (len : Int)) = false := by simp; omega
      have HT := Lib.hid (show thr ks torn cut i = 0 by unfold thr; rw [if_neg h1, List.getElem?_eq_none (by rw [HL.out]; omega)]; rfl)
      clear h1
      go_enter Try.func39, Try.ntmps39
      go_wp2
      go_ret
      exact ⟨by rw [HT.out]; rfl, B1.out⟩
end Go.Proofs.Ythcjhbjhghfhjaa.Dsk
