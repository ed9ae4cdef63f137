/- A tally of counts that are handed in: Clone, Of. -/
import Derived.Test.YtigmgaedpdeleaaTlU
namespace Go.Proofs.Ytigmgaedpdeleaa.Tl
open Go.RowKit Go.Proofs.Ytigmgaedpdeleaa.Oct Go.Proofs.Ytigmgaedpdeleaa.Mv Go.Maps
set_option linter.unusedVariables false

/-- A copy of words, in memory of its own. -/
theorem app_words {w : World} {A : Option Addr} {n c : Nat} {l : List UInt16} (hA : ∃ b o, A = some ⟨b, o, none⟩ ∧ HasV w b o (nums l)) (hl : l.length = n) (h0 : 0 < n) (hn : n ≤ 4096) (q : Nat) (hq : w.heap[q]? = some (.cells #[] 61 (0, 0))) (ty : TypeId) :
    ∃ g cap sp w', (Builtin.append_ #[22, 22] ty #[.slice (some ⟨q, 0, none⟩) 0 0, .slice A n c]).run Try.prog w = .ok (.slice (some ⟨g, 0, none⟩) n cap) w' ∧ RowV w' g 61 (nums l ++ sp) ∧ n ≤ cap ∧ q ≤ g ∧ Below q w w' := by
  obtain ⟨b, o, rfl, hh⟩ := hA
  obtain ⟨i0, hi, hz0, hz1, hz2⟩ := info_parts word_info
  have hql := (Array.getElem?_eq_some_iff.1 hq).1
  have hown : w.ownsRow q 61 1 (.slice (some ⟨q, 0, none⟩) 0 0) 0 [] := ⟨rfl, .inr ⟨q, 0, #[], rfl, Nat.le_refl _, hq, Nat.le_refl _, by unfold maxLen; omega, rfl, rfl⟩⟩
  obtain ⟨v', w', hr, ho, hg, hnil⟩ := run_append_own (P := Try.prog) w q 22 ty 61 i0 (.int .u16 0) 1 2 Try.underlying22 hi hz0 hz1 hz2 rfl (by omega) _ _ _ hown ⟨b, o, none⟩ n c (nums l) (by rw [length_nums, hl, Nat.mul_one])
    (fun j u hj => by
      rw [add_plain]
      exact hh.cellAt hj)
    (fun u hu => by simp [nums] at hu; obtain ⟨c, _, rfl⟩ := hu; rfl) (by unfold maxLen; omega) (by omega) (by omega)
  rw [List.nil_append, Nat.zero_add] at ho
  rcases ho.2 with ⟨rfl, e⟩ | ⟨g, cap, cur, rfl, hb, hgg, hle, hm, hs, ht⟩
  · omega
  · rw [Nat.mul_one] at ht
    refine ⟨g, cap, cur.toList.drop n, w', hr, ?_, hle, hb, ⟨hg.os, hg.tape, hg.output, hg.size, fun k hk => hg.block k (by omega) (fun e => ?_)⟩⟩
    · unfold RowV
      rw [hgg, ← ht, List.take_append_drop]
    · simp only [Value.ownBlock, Option.some.injEq] at e
      omega
theorem eql_slice (x : Addr) (n c : Nat) (w : World) : (binOp .eql 22 (.slice (some x) n c) (.slice none 0 0)).run Try.prog w = .ok (.bool false) w := by
  have h : ∀ d : Nat, (Op.equalIn (d + 1) 22 (.slice (some x) n c) (.slice none 0 0)).run Try.prog w = .ok false w := fun d => by
    simp [Op.equalIn, run_underlying Try.underlying22]
  simp only [binOp]
  simp [Op.equal, Op.maxDepth, h 9999]
set_option maxRecDepth 100000 in
theorem clone_yes {w : World} {A : Option Addr} {n c : Nat} {l : List UInt16} (hT : ToldV w A (nums l)) (hl : l.length = n) (h0 : 0 < n) (hn : n ≤ 4096) :
    Calls Try.prog 32 #[.slice A n c] w fun e w' => ∃ g cap sp, e = .returned (.slice (some ⟨g, 0, none⟩) n cap) ∧ RowV w' g 61 (nums l ++ sp) ∧ n ≤ cap ∧ w.heap.size ≤ g ∧ Below w.heap.size w w' := by
  obtain ⟨b, o, rfl, hh⟩ := hT.has (by rw [length_nums, hl]; exact h0)
  have B1 := (Below.refl w.heap.size w).alloc (Nat.le_refl _) (.cells #[] 61)
  have hq := heap_alloc_new w (.cells #[] 61)
  obtain ⟨g, cap, sp, w2, hrun, hR, hcap, hg, hB⟩ := app_words (c := c) ⟨b, o, rfl, hh.below (hh.lt (by rw [length_nums, hl]; exact h0)) B1⟩ hl h0 hn w.heap.size hq 22
  have HR := Lib.hid hR
  have HB := Lib.hid (B1.trans hB)
  have heq := eql_slice ⟨b, o, none⟩ n c w
  clear B1 hq hR hB hh hT
  go_enter Try.func32, Try.ntmps32
  go_wp2_with (at_builtin; refine wpList_append_run rfl (.tmp 5) (.tmp 6) 22 rfl _ _ rfl rfl _ w2 hrun ?_)
  go_ret
  exact ⟨g, cap, sp, rfl, HR.out, hcap, hg, HB.out⟩
set_option maxRecDepth 100000 in
theorem of_yes {w : World} {A : Option Addr} {n c : Nat} {l : List UInt16} (hT : ToldV w A (nums l)) (hl : l.length = n) (h0 : 1 ≤ n) (hn : n ≤ 4096) :
    Calls Try.prog 10 #[.slice A n c] w fun e w' => ∃ a cb mb k, e = .returned (.tuple #[.pointer (some ⟨a, 0, none⟩), .int .i64 0]) ∧ Fresh w w' a cb mb k (St.of l) := by
  have H := Lib.hid hT
  clear hT
  go_enter Try.func10, Try.ntmps10
  go_wp2_with fail
  refine (may_yes (n : Int) (by omega) (by omega) w).mono ?_
  rintro e w' ⟨rfl, rfl⟩
  go_wp2_with fail
  refine (clone_yes H.out hl h0 hn).mono ?_
  rintro e w1 ⟨g, cap, sp, rfl, hR, hcap, hg, hB⟩
  have HR := Lib.hid hR
  have HB := Lib.hid hB
  have HG := Lib.hid hg
  have HC := Lib.hid hcap
  clear hR hB hg hcap
  go_wp2_with fail
  have hb := build_any HR.out (c := cap) (.of (by rw [hl]; exact h0) (by rw [hl]; exact hn)) (by rw [hl]; exact HC.out)
  rw [hl] at hb
  refine hb.mono ?_
  rintro e w2 ⟨a, mb, rfl, hM⟩
  have HM := Lib.hid hM
  clear hM hb
  go_wp2_with fail
  go_ret2
  exact ⟨a, g, mb, cap, rfl, HM.out.at', HB.out.trans (HM.out.below.mono HB.out.size), Nat.le_trans HB.out.size HM.out.ha, HG.out, Nat.le_trans HB.out.size HM.out.hm⟩
set_option maxRecDepth 100000 in
theorem of_no {w : World} {A : Option Addr} {n c : Nat} (h : (n : Int) < 1 ∨ 4096 < (n : Int)) :
    Calls Try.prog 10 #[.slice A n c] w fun e w' => e = .returned (.tuple #[.pointer none, .int .i64 2]) ∧ w = w' := by
  go_enter Try.func10, Try.ntmps10
  go_wp2_with fail
  refine (may_no (n : Int) h w).mono ?_
  rintro e w' ⟨rfl, rfl⟩
  go_wp2_with fail
  go_ret2
  exact ⟨rfl, rfl⟩
set_option maxRecDepth 100000 in
theorem rnew_rows (n : Nat) (h1 : 1 ≤ n) (h2 : n ≤ 4096) (w : World) :
    Calls Try.prog 28 #[.int .i64 (n : Int)] w fun e w' => ∃ b1 c1 b2 c2, e = .returned (.tuple #[rval n b1 c1 b2 c2, .int .i64 0]) ∧ c1 = n ∧ c2 = n ∧ b1 ≠ b2 ∧ w.heap.size ≤ b1 ∧ w.heap.size ≤ b2 ∧ RowV w' b1 3 (wide (List.replicate n 0)) ∧ RowV w' b2 3 (wide (List.replicate n 0)) ∧ Below w.heap.size w w' := by
  have hz := zero_rtally
  have hmk := fun w => run_make_ints w n h2
  unfold rval
  go_enter Try.func28, Try.ntmps28
  go_upto_region 3 with (fail)
  have R0 := alloc_rowV w 31 [.slice none 0 0, .slice none 0 0]
  have B0 := (Below.refl w.heap.size w).alloc (Nat.le_refl _) (.cells #[.slice none 0 0, .slice none 0 0] 31)
  generalize w.alloc (.cells #[.slice none 0 0, .slice none 0 0] 31) = w1 at *
  have B1 := (Below.refl w1.heap.size w1).alloc (Nat.le_refl _) (.cells (wide (List.replicate n 0)).toArray 3)
  have B2 := B1.alloc B1.size (.cells (wide (List.replicate n 0)).toArray 3)
  have R1 := alloc_rowV w1 3 (wide (List.replicate n 0))
  have R2 := alloc_rowV (w1.alloc (.cells (wide (List.replicate n 0)).toArray 3)) 3 (wide (List.replicate n 0))
  have hsz : (w1.alloc (.cells (wide (List.replicate n 0)).toArray 3)).heap.size = w1.heap.size + 1 := by simp
  have R1' := R1.below (B := w1.heap.size + 1) (by omega) ((Below.refl _ (w1.alloc (.cells (wide (List.replicate n 0)).toArray 3))).alloc (by omega) (.cells (wide (List.replicate n 0)).toArray 3))
  rw [hsz] at R2
  have R02 := R0.below R0.lt B2
  have d0 := R02.cellAt (i := 0) rfl
  have d1 := R02.cellAt (i := 1) rfl
  have f0 := R02.free 0
  have f1 := R02.free 1
  have HR := Lib.hid R02
  have HB := Lib.hid (B0.trans (B2.mono B0.size))
  have HR1 := Lib.hid R1'
  have HR2 := Lib.hid R2
  have HLT := Lib.hid R0.lt
  clear R0 B0 B1 B2 R1 R2 R1' R02 hsz
  go_region
  · go_wp2_with fail
    generalize (w1.alloc (.cells (wide (List.replicate n 0)).toArray 3)).alloc (.cells (wide (List.replicate n 0)).toArray 3) = w2 at *
    have HR3 := Lib.hid ((HR.out.set 0 (.slice (some ⟨w1.heap.size, 0, none⟩) n n)).set 1 (.slice (some ⟨w1.heap.size + 1, 0, none⟩) n n))
    have hne : w1.heap.size ≠ w.heap.size := fun e => by have := HLT.out; omega
    have hne2 : w1.heap.size + 1 ≠ w.heap.size := fun e => by have := HLT.out; omega
    have hp := (((HR1.out.other (i := 0) (v := .slice (some ⟨w1.heap.size, 0, none⟩) n n) hne).other (i := 1) (v := .slice (some ⟨w1.heap.size + 1, 0, none⟩) n n) hne))
    have hq := (((HR2.out.other (i := 0) (v := .slice (some ⟨w1.heap.size, 0, none⟩) n n) hne2).other (i := 1) (v := .slice (some ⟨w1.heap.size + 1, 0, none⟩) n n) hne2))
    have HBZ := Lib.hid ((HB.out.setCell (p := ⟨w.heap.size, 0, none⟩) (Nat.le_refl _) (.slice (some ⟨w1.heap.size, 0, none⟩) n n)).setCell (p := ⟨w.heap.size, 1, none⟩) (Nat.le_refl _) (.slice (some ⟨w1.heap.size + 1, 0, none⟩) n n))
    have hlen : (St.new n).n = n := n_new n
    refine bodyPost_ret (v := .tuple #[.agg #[.slice (some ⟨w1.heap.size, 0, none⟩) n n, .slice (some ⟨w1.heap.size + 1, 0, none⟩) n n], .int .i64 0]) ?_ rfl ⟨_, _, _, _, rfl, rfl, rfl, by omega, by have := HLT.out; omega, by have := HLT.out; omega, hp.still ⟨rfl, rfl, rfl, rfl⟩, hq.still ⟨rfl, rfl, rfl, rfl⟩, HBZ.out.drew⟩
    clear hp hq d0 d1 f0 f1 hne hne2
    have d0 := HR3.out.cellAt (i := 0) rfl
    have d1 := HR3.out.cellAt (i := 1) rfl
    rw [results_cell_tmp rfl]
    generalize (w2.setCell ⟨w.heap.size, 0, none⟩ (.slice (some ⟨w1.heap.size, 0, none⟩) n n)).setCell ⟨w.heap.size, 1, none⟩ (.slice (some ⟨w1.heap.size + 1, 0, none⟩) n n) = w3 at *
    go_simp
  · go_wp2_with fail
    generalize (w1.alloc (.cells (wide (List.replicate n 0)).toArray 3)).alloc (.cells (wide (List.replicate n 0)).toArray 3) = w2 at *
    have HR3 := Lib.hid ((HR.out.set 0 (.slice (some ⟨w1.heap.size + 1, 0, none⟩) n n)).set 1 (.slice (some ⟨w1.heap.size, 0, none⟩) n n))
    have hne : w1.heap.size ≠ w.heap.size := fun e => by have := HLT.out; omega
    have hne2 : w1.heap.size + 1 ≠ w.heap.size := fun e => by have := HLT.out; omega
    have hp := (((HR2.out.other (i := 0) (v := .slice (some ⟨w1.heap.size + 1, 0, none⟩) n n) hne2).other (i := 1) (v := .slice (some ⟨w1.heap.size, 0, none⟩) n n) hne2))
    have hq := (((HR1.out.other (i := 0) (v := .slice (some ⟨w1.heap.size + 1, 0, none⟩) n n) hne).other (i := 1) (v := .slice (some ⟨w1.heap.size, 0, none⟩) n n) hne))
    have HBZ := Lib.hid ((HB.out.setCell (p := ⟨w.heap.size, 0, none⟩) (Nat.le_refl _) (.slice (some ⟨w1.heap.size + 1, 0, none⟩) n n)).setCell (p := ⟨w.heap.size, 1, none⟩) (Nat.le_refl _) (.slice (some ⟨w1.heap.size, 0, none⟩) n n))
    have hlen : (St.new n).n = n := n_new n
    refine bodyPost_ret (v := .tuple #[.agg #[.slice (some ⟨w1.heap.size + 1, 0, none⟩) n n, .slice (some ⟨w1.heap.size, 0, none⟩) n n], .int .i64 0]) ?_ rfl ⟨_, _, _, _, rfl, rfl, rfl, by omega, by have := HLT.out; omega, by have := HLT.out; omega, hp.still ⟨rfl, rfl, rfl, rfl⟩, hq.still ⟨rfl, rfl, rfl, rfl⟩, HBZ.out.drew⟩
    clear hp hq d0 d1 f0 f1 hne hne2
    have d0 := HR3.out.cellAt (i := 0) rfl
    have d1 := HR3.out.cellAt (i := 1) rfl
    rw [results_cell_tmp rfl]
    generalize (w2.setCell ⟨w.heap.size, 0, none⟩ (.slice (some ⟨w1.heap.size + 1, 0, none⟩) n n)).setCell ⟨w.heap.size, 1, none⟩ (.slice (some ⟨w1.heap.size, 0, none⟩) n n) = w3 at *
    go_simp
end Go.Proofs.Ytigmgaedpdeleaa.Tl
