import Derived.Maps.OwnIn
import Derived.Test.YtogchamogbendaaGreatQdA
import Derived.Test.YtogchamogbendaaGreatQdy
set_option maxRecDepth 100000
set_option linter.unusedVariables false
set_option linter.unusedSimpArgs false
namespace Go.Proofs.YtogchamogbendaaGreat.Bs
open Lib (hid)
open Go.RowKit Oct Mv Tl Pk Pl Go.Maps Go.ChangeMaps
open Lf (Nd Fit nodePage RowN ToldN)
open No (atR at_any)
attribute [local go_sem] Oper.semAt_some
def walkGo (most : Int) : List Itm → List (Itm × Nat) → List Itm × Nat
 | acc, [] => (acc, 0)
 | acc, x :: r => if x.2 ≠ 0 then ([], x.2) else if most ≤ ((if 0 < most then acc ++ [x.1] else acc).length : Int) then ((if 0 < most then acc ++ [x.1] else acc), 0) else walkGo most (if 0 < most then acc ++ [x.1] else acc) r
theorem items_any (n : Nat) (p : Option Addr) (root : Int) (fr tt : UInt64) (w : World) :
  CallsIn Fence.wide n Tryz.prog 119 #[.pointer p, .int .i64 root, .int .u64 (fr.toNat : Int), .int .u64 (tt.toNat : Int)] w fun e w' =>
   e = .returned (.func (.func 173) #[] #[.pointer (some ⟨w.heap.size, 0, none⟩), .pointer (some ⟨w.heap.size + 1, 0, none⟩), .pointer (some ⟨w.heap.size + 1 + 1, 0, none⟩), .pointer (some ⟨w.heap.size + 1 + 1 + 1, 0, none⟩)]) ∧
   w' = (((w.alloc (.cells #[.pointer p] 24)).alloc (.cells #[.int .i64 root] 3)).alloc (.cells #[.int .u64 (fr.toNat : Int)] 30)).alloc (.cells #[.int .u64 (tt.toNat : Int)] 30) := by
 refine callsIn_of_wp Tryz.func119 rfl trivial ?_ rfl
 simp only [Tryz.ntmps119, List.size_toArray, List.length_cons, List.length_nil, Nat.reduceAdd, Nat.reduceSub, Array.replicate_succ, Array.replicate_zero, List.push_toArray, List.append_toArray, List.nil_append, List.cons_append]
 gi_wp2
 go_ret
 exact ⟨rfl, rfl⟩
theorem put_but (A : World) (k : Nat) (o : Obj) : ButL A (A.putObj k o) [k] := ⟨rfl, rfl, rfl, by simp [World.putObj], fun j hj hm => World.putObj_heap_other (by simp at hm; omega)⟩
structure WI (w : World) (s : Nat) (most : Int) (pre : List (Itm × Nat)) (acc : List Itm) (v : Value) (A : World) : Prop where
 go : ∀ r, walkGo most [] (pre ++ r) = walkGo most acc r
 few : acc.length ≤ pre.length ∧ (acc = [] ∨ (acc.length : Int) < most)
 row : RowV A (s + 3) 83 [v]
 own : OwnJ A (s + 10) v acc
 most : RowV A s 3 [.int .i64 most]
 r1 : RowV A (s + 1) 83 [.slice none 0 0]
 r2 : RowV A (s + 2) 39 [.int .i64 0]
 low : Below s w A
 big : s + 10 ≤ A.heap.size
theorem WI.but {w : World} {s : Nat} {most : Int} {pre : List (Itm × Nat)} {acc : List Itm} {v : Value} {A B : World} {M : List Nat} (h : WI w s most pre acc v A) (k : ButL A B M) (hM : ∀ x ∈ M, s + 4 ≤ x ∧ x < s + 10) : WI w s most pre acc v B := by
 have hb := h.big
 have hk : ∀ j, j < A.heap.size → j < s + 4 ∨ s + 10 ≤ j → B.heap[j]? = A.heap[j]? := fun j hj hq => k.block j hj fun hm => by have := hM j hm; omega
 exact ⟨h.go, h.few, h.row.block (hk _ (by omega) (by omega)), h.own.same fun j e hj => hk j hj (.inr (h.own.lt e).1), h.most.block (hk _ (by omega) (by omega)), h.r1.block (hk _ (by omega) (by omega)), h.r2.block (hk _ (by omega) (by omega)),
  h.low.trans (k.below (fun x hx => by have := hM x hx; omega) (by omega)), Nat.le_trans hb k.size⟩
def WX (w : World) (s : Nat) (most : Int) (L : List (Itm × Nat)) (c : Code) (A : World) : Prop :=
 (c = .ret ∧ ∃ e : Nat, walkGo most [] L = ([], e) ∧ RowV A (s + 1) 83 [.slice none 0 0] ∧ RowV A (s + 2) 39 [.int .i64 (e : Int)] ∧ Below s w A ∧ s + 10 ≤ A.heap.size) ∨
 (c = .exit 0 ∧ ∃ acc v, walkGo most [] L = (acc, 0) ∧ RowV A (s + 3) 83 [v] ∧ OwnJ A (s + 10) v acc ∧ RowV A (s + 1) 83 [.slice none 0 0] ∧ RowV A (s + 2) 39 [.int .i64 0] ∧ Below s w A ∧ s + 10 ≤ A.heap.size)
theorem WX.but {w : World} {s : Nat} {most : Int} {L : List (Itm × Nat)} {c : Code} {A B : World} {M : List Nat} (h : WX w s most L c A) (k : ButL A B M) (hM : ∀ x ∈ M, s + 4 ≤ x ∧ x < s + 10) : WX w s most L c B := by
 have hk : s + 10 ≤ A.heap.size → ∀ j, j < A.heap.size → j < s + 4 ∨ s + 10 ≤ j → B.heap[j]? = A.heap[j]? := fun _ j hj hq => k.block j hj fun hm => by have := hM j hm; omega
 have hl : ∀ {u : World}, Below s u A → s + 10 ≤ A.heap.size → Below s u B := fun h hb => h.trans (k.below (fun x hx => by have := hM x hx; omega) (by omega))
 rcases h with ⟨hc, e, h1, h2, h3, h4, hb⟩ | ⟨hc, acc, v, h1, h2, h3, h4, h5, h6, hb⟩
 ·exact .inl ⟨hc, e, h1, h2.block (hk hb _ (by omega) (by omega)), h3.block (hk hb _ (by omega) (by omega)), hl h4 hb, Nat.le_trans hb k.size⟩
 ·exact .inr ⟨hc, acc, v, h1, h2.block (hk hb _ (by omega) (by omega)), h3.same fun j e hj => hk hb j hj (.inr (h3.lt e).1), h4.block (hk hb _ (by omega) (by omega)), h5.block (hk hb _ (by omega) (by omega)), hl h6 hb, Nat.le_trans hb k.size⟩
theorem keep_put {s : Nat} (A : World) (k : Nat) (o : Obj) (h1 : s + 8 ≤ k) (h2 : k < s + 10) (hb : s + 10 ≤ A.heap.size) : KeepW [s + 1, s + 2, s + 3, s + 8, s + 9] (s + 3) A (A.putObj k o) :=
 ⟨⟨rfl, rfl, rfl, (put_but A k o).size⟩, fun j hj hx _ => (put_but A k o).block j hj (fun e => hx (by simp at e; subst e; simp; omega)), fun j hm => .inl ((mine_same ((put_but A k o).block (s + 3) (by omega) (by simp; omega)) j).1 hm)⟩
theorem res_cells {fn : Func} {p q : Tmp} (h : fn.results = #[.cell p 83, .cell q 39]) (tmps : Array Value) {w : World} {g1 g2 : Nat} {v : Value} {e : Int} (hp : tmps.getD p undef = .pointer (some ⟨g1, 0, none⟩)) (hq : tmps.getD q undef = .pointer (some ⟨g2, 0, none⟩))
  (h1 : RowV w g1 83 [v]) (h2 : RowV w g2 39 [.int .i64 e]) : (results fn tmps).run Tryz.prog w = .ok (.tuple #[v, .int .i64 e]) w := by
 have hp' : tmps[p]?.getD undef = .pointer (some ⟨g1, 0, none⟩) := by simpa using hp
 have hq' : tmps[q]?.getD undef = .pointer (some ⟨g2, 0, none⟩) := by simpa using hq
 have c1 := h1.cellAt (i := 0) rfl
 have c2 := h2.cellAt (i := 0) rfl
 have l1 : (loadVar 83 ⟨g1, 0, none⟩).run Tryz.prog w = .ok v w := by simp [loadVar, Tryz.underlying83, go_sem, c1]
 have l2 : (loadVar 39 ⟨g2, 0, none⟩).run Tryz.prog w = .ok (.int .i64 e) w := by simp [loadVar, Tryz.underlying39, go_sem, c2]
 simp [results, h, hp', hq', asAddr, Sem.run_bind, Result.andThen, l1, l2]
theorem wi_push {w : World} {s : Nat} {most : Int} {pre : List (Itm × Nat)} {acc : List Itm} {v : Value} {C : World} (h : WI w s most pre acc v C) (x : Itm) {obj : Obj} {w1 W2 : World} {v' : Value} (ho : OwnJ w1 (s + 10) v' (acc ++ [x]))
  (hg : (C.alloc obj).grownBy w1 v.ownBlock) (hb : v'.ownBlock = v.ownBlock ∨ v'.ownBlock = some (C.alloc obj).heap.size) (hW : W2 = w1.setCell ⟨s + 3, 0, none⟩ v') :
  RowV W2 (s + 3) 83 [v'] ∧ OwnJ W2 (s + 10) v' (acc ++ [x]) ∧ RowV W2 s 3 [.int .i64 most] ∧ RowV W2 (s + 1) 83 [.slice none 0 0] ∧ RowV W2 (s + 2) 39 [.int .i64 0] ∧ Below s w W2 ∧ s + 10 ≤ W2.heap.size ∧ Book (s + 8) C W2 ∧ KeepW [s + 1, s + 2, s + 3, s + 8, s + 9] (s + 3) C W2 := by
 have hbig := h.big
 have hsz : (C.alloc obj).heap.size = C.heap.size + 1 := World.size_alloc ..
 have hgs := hg.size
 have hs2 : W2.heap.size = w1.heap.size := by rw [hW]; simp
 have al := (Below.refl C.heap.size C).alloc (Nat.le_refl _) obj
 have k1 : ∀ j, j < C.heap.size → v.ownBlock ≠ some j → w1.heap[j]? = C.heap[j]? := fun j hj hn => (hg.block j (by omega) (fun e => hn e.symm)).trans (al.block j hj)
 have k2 : ∀ j, j < C.heap.size → v.ownBlock ≠ some j → j ≠ s + 3 → W2.heap[j]? = C.heap[j]? := fun j hj hn h3 => by rw [hW]; exact (heap_setCell_other _ _ _ _ h3).trans (k1 j hj hn)
 have low : ∀ j, j < s + 10 → v.ownBlock ≠ some j := fun j hj e => by have := (h.own.lt e).1; omega
 refine ⟨?_, ?_, h.most.block (k2 _ (by omega) (low _ (by omega)) (by omega)), h.r1.block (k2 _ (by omega) (low _ (by omega)) (by omega)), h.r2.block (k2 _ (by omega) (low _ (by omega)) (by omega)), ?_, by omega, ⟨k2 _ (by omega) (low _ (by omega)) (by omega), k2 _ (by omega) (low _ (by omega)) (by omega)⟩, ?_⟩
 ·rw [hW]
  exact (h.row.block (k1 _ (by omega) (low _ (by omega)))).set 0 v'
 ·exact ho.same fun j e hj => by rw [hW]; exact heap_setCell_other _ _ _ _ (by have := (ho.lt e).1; show j ≠ s + 3; omega)
 ·refine h.low.trans ⟨?_, ?_, ?_, by omega, fun j hj => k2 j (by omega) (low j (by omega)) (by omega)⟩
  ·rw [hW]; exact hg.os
  ·rw [hW]; exact hg.tape
  ·rw [hW]; exact hg.output
 ·refine ⟨⟨?_, ?_, ?_, by omega⟩, fun j hj hx hm => k2 j hj (fun e => hm ⟨v, h.row.cellAt (i := 0) rfl, e⟩) (fun e => hx (by rw [e]; simp)), fun j ⟨u, hu, hj⟩ => ?_⟩
  ·rw [hW]; exact hg.os
  ·rw [hW]; exact hg.tape
  ·rw [hW]; exact hg.output
  ·have hr : RowV W2 (s + 3) 83 [v'] := by
    rw [hW]
    exact (h.row.block (k1 _ (by omega) (low _ (by omega)))).set 0 v'
   rw [hr.cellAt (i := 0) rfl] at hu
   cases hu
   rcases hb with e | e
   ·exact .inl ⟨v, h.row.cellAt (i := 0) rfl, e.symm.trans hj⟩
   ·rw [hj] at e
    have := Option.some.inj e
    exact .inr (by omega)
set_option maxRecDepth 100000 in
set_option maxHeartbeats 4000000 in
theorem walk_of {p : Option Addr} (root : Int) (fr tt : UInt64) (most : Int) (wayF : UInt64 → WR) (hw : ∀ k, (wayF k).e = 0 → k.toNat ≤ (wayF k).last.toNat ∧ (wayF k).vs.length = (wayF k).ks.length ∧ (wayF k).ks.length ≤ 7) (w : World)
  (hdn : ∀ W, Below w.heap.size w W → ∀ k : UInt64, Calls Tryz.prog 117 #[.pointer p, .int .i64 root, .int .u64 (k.toNat : Int)] W (WayOut (wayF k) W))
  (L : List (Itm × Nat)) (hL : L = walkL wayF tt 18446744073709551616 fr) (hmost : most ≤ 1000000 ∨ L.length ≤ 1000000) (r : List Itm × Nat) (hr : r = walkGo most [] L) :
  Calls Tryz.prog 55 #[.pointer p, .int .i64 root, .int .u64 (fr.toNat : Int), .int .u64 (tt.toNat : Int), .int .i64 most] w fun e w' =>
   ∃ v, e = .returned (.tuple #[v, .int .i64 (r.2 : Nat)]) ∧ OwnJ w' w.heap.size v r.1 ∧ Below w.heap.size w w' := by
 obtain ⟨i0, hi, hz0, hz1, hz2⟩ := info_parts item_info
 have HW := hid hw
 have HDN := hid hdn
 have HL := hid hL
 have HM := hid hmost
 have HR := hid hr
 clear hw hdn hL hmost hr
 obtain ⟨s, hs⟩ : ∃ s, w.heap.size = s := ⟨_, rfl⟩
 refine (callsIn_wide (n := 6)).1 ?_
 refine callsIn_of_wp_marks Tryz.func55 rfl trivial ?_ rfl
 simp only [Tryz.ntmps55, List.size_toArray, List.length_cons, List.length_nil, Nat.reduceAdd, Nat.reduceSub, Array.replicate_succ, Array.replicate_zero, List.push_toArray, List.append_toArray, List.nil_append, List.cons_append]
 gi_wp2_with (refine ⟨trivial, ?_⟩; gi_at_call 119; refine (items_any _ p root fr tt _).mono ?_; rintro e w' ⟨rfl, rfl⟩)
 have r := alloc_rowV w 3 [.int .i64 most]
 have k := (Below.refl w.heap.size w).alloc (Nat.le_refl _) (.cells #[.int .i64 most] 3)
 have z : (w.alloc (.cells #[.int .i64 most] 3)).heap.size = s + 1 := by rw [World.size_alloc, hs]
 rw [hs] at r
 skip
 generalize w.alloc (.cells #[.int .i64 most] 3) = w1 at *
 have hs1 := z
 have R0 := r
 have HB := k
 clear r k z
 have r := alloc_rowV w1 83 [.slice none 0 0]
 have k := (Below.refl w1.heap.size w1).alloc (Nat.le_refl _) (.cells #[.slice none 0 0] 83)
 have z : (w1.alloc (.cells #[.slice none 0 0] 83)).heap.size = s + 2 := by rw [World.size_alloc, hs1]
 rw [hs1] at r
 skip
 generalize w1.alloc (.cells #[.slice none 0 0] 83) = w2 at *
 have hs2 := z
 replace R0 := R0.below R0.lt k
 have R1 := r
 replace HB := HB.trans (k.mono (by omega))
 clear r k z
 have r := alloc_rowV w2 39 [.int .i64 0]
 have k := (Below.refl w2.heap.size w2).alloc (Nat.le_refl _) (.cells #[.int .i64 0] 39)
 have z : (w2.alloc (.cells #[.int .i64 0] 39)).heap.size = s + 3 := by rw [World.size_alloc, hs2]
 rw [hs2] at r
 skip
 generalize w2.alloc (.cells #[.int .i64 0] 39) = w3 at *
 have hs3 := z
 replace R0 := R0.below R0.lt k
 replace R1 := R1.below R1.lt k
 have R2 := r
 replace HB := HB.trans (k.mono (by omega))
 clear r k z
 have r := alloc_rowV w3 83 [.slice none 0 0]
 have k := (Below.refl w3.heap.size w3).alloc (Nat.le_refl _) (.cells #[.slice none 0 0] 83)
 have z : (w3.alloc (.cells #[.slice none 0 0] 83)).heap.size = s + 4 := by rw [World.size_alloc, hs3]
 rw [hs3] at r
 skip
 generalize w3.alloc (.cells #[.slice none 0 0] 83) = w4 at *
 have hs4 := z
 replace R0 := R0.below R0.lt k
 replace R1 := R1.below R1.lt k
 replace R2 := R2.below R2.lt k
 have R3 := r
 replace HB := HB.trans (k.mono (by omega))
 clear r k z
 have r := alloc_rowV w4 24 [.pointer p]
 have k := (Below.refl w4.heap.size w4).alloc (Nat.le_refl _) (.cells #[.pointer p] 24)
 have z : (w4.alloc (.cells #[.pointer p] 24)).heap.size = s + 5 := by rw [World.size_alloc, hs4]
 rw [hs4] at r
 skip
 generalize w4.alloc (.cells #[.pointer p] 24) = w5 at *
 have hs5 := z
 replace R0 := R0.below R0.lt k
 replace R1 := R1.below R1.lt k
 replace R2 := R2.below R2.lt k
 replace R3 := R3.below R3.lt k
 have R4 := r
 replace HB := HB.trans (k.mono (by omega))
 clear r k z
 have r := alloc_rowV w5 3 [.int .i64 root]
 have k := (Below.refl w5.heap.size w5).alloc (Nat.le_refl _) (.cells #[.int .i64 root] 3)
 have z : (w5.alloc (.cells #[.int .i64 root] 3)).heap.size = s + 6 := by rw [World.size_alloc, hs5]
 rw [hs5] at r
 skip
 generalize w5.alloc (.cells #[.int .i64 root] 3) = w6 at *
 have hs6 := z
 replace R0 := R0.below R0.lt k
 replace R1 := R1.below R1.lt k
 replace R2 := R2.below R2.lt k
 replace R3 := R3.below R3.lt k
 replace R4 := R4.below R4.lt k
 have R5 := r
 replace HB := HB.trans (k.mono (by omega))
 clear r k z
 have r := alloc_rowV w6 30 [.int .u64 (fr.toNat : Int)]
 have k := (Below.refl w6.heap.size w6).alloc (Nat.le_refl _) (.cells #[.int .u64 (fr.toNat : Int)] 30)
 have z : (w6.alloc (.cells #[.int .u64 (fr.toNat : Int)] 30)).heap.size = s + 7 := by rw [World.size_alloc, hs6]
 rw [hs6] at r
 skip
 generalize w6.alloc (.cells #[.int .u64 (fr.toNat : Int)] 30) = w7 at *
 have hs7 := z
 replace R0 := R0.below R0.lt k
 replace R1 := R1.below R1.lt k
 replace R2 := R2.below R2.lt k
 replace R3 := R3.below R3.lt k
 replace R4 := R4.below R4.lt k
 replace R5 := R5.below R5.lt k
 have R6 := r
 replace HB := HB.trans (k.mono (by omega))
 clear r k z
 have r := alloc_rowV w7 30 [.int .u64 (tt.toNat : Int)]
 have k := (Below.refl w7.heap.size w7).alloc (Nat.le_refl _) (.cells #[.int .u64 (tt.toNat : Int)] 30)
 have z : (w7.alloc (.cells #[.int .u64 (tt.toNat : Int)] 30)).heap.size = s + 8 := by rw [World.size_alloc, hs7]
 rw [hs7] at r
 skip
 generalize w7.alloc (.cells #[.int .u64 (tt.toNat : Int)] 30) = w8 at *
 have hs8 := z
 replace R0 := R0.below R0.lt k
 replace R1 := R1.below R1.lt k
 replace R2 := R2.below R2.lt k
 replace R3 := R3.below R3.lt k
 replace R4 := R4.below R4.lt k
 replace R5 := R5.below R5.lt k
 replace R6 := R6.below R6.lt k
 have R7 := r
 replace HB := HB.trans (k.mono (by omega))
 clear r k z
 simp only [Nat.add_assoc, Nat.reduceAdd]
 rw [hs] at HB HDN
 have HBw := hid HB
 have HRR := hid (And.intro R0 (And.intro R1 (And.intro R2 (And.intro R3 (And.intro R4 (And.intro R5 (And.intro R6 R7)))))))
 have hlist : ∀ x ∈ [s + 6], s + 4 ≤ x ∧ x < s + 10 := fun x hx => by simp at hx; omega
 clear HB R0 R1 R2 R3 R4 R5 R6 R7 hs1 hs2 hs3 hs4 hs5 hs6 hs7
 refine range_own (s + 8) hs8 rfl (by decide) (gf := 173) (lb := #[.pointer (some ⟨s + 4, 0, none⟩), .pointer (some ⟨s + 5, 0, none⟩), .pointer (some ⟨s + 6, 0, none⟩), .pointer (some ⟨s + 7, 0, none⟩)]) rfl trivial (enters_of Tryz.func173 (by kernel_rfl) rfl)
  (encs := encI) (fun _ => rfl) (s + 6) (by omega) (KeepW [s + 1, s + 2, s + 3, s + 8, s + 9] (s + 3)) (fun pre x => pre ++ [x] <+: L) (fun xs => xs = L) (fun pre A => ∃ acc v, WI w s most pre acc v A) (fun c _ A => WX w s most L c A) ?seq
  (fun _ A B ⟨acc, v, h⟩ k => ⟨acc, v, h.but k hlist⟩) (fun _ _ A B h k => h.but k hlist)
  (fun _ A k o ⟨acc, v, h⟩ h1 h2 _ => ⟨acc, v, h.but (put_but A k o) (fun x hx => by simp at hx; omega)⟩) (fun _ _ A k o h h1 h2 _ => h.but (put_but A k o) (fun x hx => by simp at hx; omega))
  KeepW.trans (fun A k o h1 h2 h3 => keep_put A k o h1 h2 h3) ?h0 ?round ?done ?stop
 case seq =>
  intro J Jx W hB hJI hJ hJx hY hJ0
  have hsz := hB.size
  have row : ∀ {g : Nat} {T : TypeId} {vs : List Value}, RowV w8 g T vs → RowV W g T vs := fun h => h.block (hB.block _ h.lt (by simp))
  obtain ⟨_, _, _, _, q4, q5, q6, q7⟩ := HRR.out
  exact items1 (n := 5) (by decide) (s + 9) (s + 4) (s + 5) (s + 6) (s + 7) s (s + 10) (s + 3) [s + 1, s + 2, s + 3, s + 8, s + 9] (.pointer p) root tt fr wayF HW.out W
   (fun W' hW' k => HDN.out W' ((HBw.out.trans (hB.below (B := s) (by simp) (by omega))).trans hW') k)
   (fun k hk => by simp at hk; omega) (by simp) ⟨by omega, by omega, by omega, by omega, by omega, by omega, by omega⟩ ⟨by simp, by simp, by simp, by simp⟩ ⟨by omega, by omega, by omega, by omega⟩
   J Jx hJ hJx (fun pre A h => by
    obtain ⟨⟨acc, v, hW⟩, hsz⟩ := hJI pre A h
    refine ⟨fun k ⟨u, hu, hk⟩ => ?_, fun k hk => by simp at hk; omega⟩
    rw [hW.row.cellAt (i := 0) rfl] at hu
    cases hu
    exact hW.own.lt hk) L HL.out hY W (Below.refl _ _) (by omega) ⟨row q4, row q5, row q7⟩ (row q6) hJ0
 case h0 =>
  intro W hB hsz
  have row : ∀ {g : Nat} {T : TypeId} {vs : List Value}, RowV w8 g T vs → RowV W g T vs := fun h => h.block (hB.block _ h.lt (by simp))
  obtain ⟨q0, q1, q2, q3, _⟩ := HRR.out
  exact ⟨[], _, fun r => rfl, ⟨Nat.zero_le _, .inl rfl⟩, row q3, OwnJ.nil _ _, row q0, row q1, row q2, HBw.out.trans (hB.below (B := s) (by simp) (by omega)), by omega⟩
 case round =>
  rintro pre ⟨⟨kx, vx⟩, ex⟩ A ⟨acc, v, hWI⟩ hpre hA
  have HWI := hid hWI
  have HPR := hid hpre
  clear hWI hpre
  simp only [encI]
  gi_wp2
  have b13 := (Below.refl A.heap.size A).alloc (Nat.le_refl _) (.cells #[.int .u64 (kx.toNat : Int), .int .u64 (vx.toNat : Int)] 104)
  have r13 := alloc_rowV A 104 [.int .u64 (kx.toNat : Int), .int .u64 (vx.toNat : Int)]
  have hb := HWI.out.big
  have s13 : (A.alloc (.cells #[.int .u64 (kx.toNat : Int), .int .u64 (vx.toNat : Int)] 104)).heap.size = A.heap.size + 1 := World.size_alloc ..
  refine ⟨⟨b13.block _ (by omega), b13.block _ (by omega)⟩, KeepW.of_below b13 (Nat.le_refl _) (by omega), by omega, ?_⟩
  rintro o C hC
  obtain ⟨X13, hX13⟩ : ∃ X, X = A.heap.size := ⟨_, rfl⟩
  have pb := put_but (A.alloc (.cells #[.int .u64 (kx.toNat : Int), .int .u64 (vx.toNat : Int)] 104)) (s + 9) o
  have HC := hid (show WI w s most pre acc v C ∧ RowV C X13 104 [.int .u64 (kx.toNat : Int), .int .u64 (vx.toNat : Int)] by
   rw [hC, hX13]
   exact ⟨(HWI.out.but (ButL.of_below [] b13 (Nat.le_refl _)) (by simp)).but pb (fun x hx => by simp at hx; omega), r13.block (pb.block _ (by omega) (by simp only [List.mem_singleton]; omega))⟩)
  rw [← hX13]
  clear b13 r13 hb s13 pb hX13 hC HWI
  obtain ⟨rr, hrr⟩ := HPR.out
  have HLr := hid (show walkGo most [] L = walkGo most acc (((kx, vx), ex) :: rr) by rw [← hrr, List.append_assoc]; exact HC.out.1.go _)
  have HLn := hid (show pre.length + 1 ≤ L.length by rw [← hrr, List.length_append, List.length_append]; show _ ≤ pre.length + 1 + _; omega)
  clear hrr
  have cm := HC.out.1.most.cellAt (i := 0) rfl
  have c12 := HC.out.1.row.cellAt (i := 0) rfl
  have c1 := HC.out.1.r1.cellAt (i := 0) rfl
  have c2 := HC.out.1.r2.cellAt (i := 0) rfl
  have f1 := HC.out.1.r1.free 0
  have f2 := HC.out.1.r2.free 0
  have f12 := HC.out.1.row.free 0
  have c130 := HC.out.2.cellAt (i := 0) rfl
  have c131 := HC.out.2.cellAt (i := 1) rfl
  by_cases hex : ex = 0
  ·subst hex
   have hbg := HC.out.1.big
   by_cases hm : 0 < most
   ·have hmi : decide (0 < most) = true := decide_eq_true hm
    have hm1 : acc.length + 1 ≤ 1000000 := by
     have h1 := HC.out.1.few
     have h2 := HLn.out
     rcases HM.out with q | q
     ·rcases h1.2 with z | z
      ·rw [z]; decide
      ·omega
     ·omega
    have hm2 : acc.length + 1 ≤ maxLen := by unfold maxLen; omega
    have hm3 : (acc.length + 1) * 16 ≤ 140737488355328 := by omega
    have bo := (Below.refl C.heap.size C).alloc (Nat.le_refl _) (.cells #[.int .u64 (kx.toNat : Int), .int .u64 (vx.toNat : Int)] 104)
    have hown := HC.out.1.own.kept bo (Nat.le_refl _)
    have ro := alloc_rowV C 104 [.int .u64 (kx.toNat : Int), .int .u64 (vx.toNat : Int)]
    by_cases hge : most ≤ (acc.length : Int) + 1
    ·have hgi : decide (most ≤ (acc.length : Int) + 1) = true := decide_eq_true hge
     have hown2 : (C.alloc (.cells #[.int .u64 (kx.toNat : Int), .int .u64 (vx.toNat : Int)] 104)).ownsRow (s + 10) 104 2 v acc.length (ivs acc) := hown
     have hnews : ∀ j u, ([.int .u64 (kx.toNat : Int), .int .u64 (vx.toNat : Int)] : List Value)[j]? = some u → (C.alloc (.cells #[.int .u64 (kx.toNat : Int), .int .u64 (vx.toNat : Int)] 104)).cell? ((⟨C.heap.size, 0, none⟩ : Addr).add j) = some u := fun j u hj => by
      rw [add_plain]
      exact ro.has.cellAt hj
     have hones : ∀ u ∈ ([.int .u64 (kx.toNat : Int), .int .u64 (vx.toNat : Int)] : List Value), u.oneCell' = true := by simp [Value.oneCell']
     gi_upto_region 8 with (fail)
     have hs3 : s + 3 < C.heap.size := by omega
     gi_wp2_with (gi_at_builtin; refine wpListIn_append_own_at _ rfl _ _ 83 rfl (s + 10) 104 i0 (.agg #[.int .u64 0, .int .u64 0]) 2 16 Tryz.underlying83 hi hz0 hz1 hz2 rfl (by decide) v acc.length (ivs acc) rfl hown2 ⟨C.heap.size, 0, none⟩ 1 1 [.int .u64 (kx.toNat : Int), .int .u64 (vx.toNat : Int)] rfl rfl hnews hones hm2 hm3 (by rw [World.size_alloc]; omega) ?_; intro v' w1 hown' hgrow _ hblk; have ho : OwnJ w1 (s + 10) v' (acc ++ [(kx, vx)]) := (by unfold OwnJ; rw [List.length_append, ivs_append]; exact hown'); obtain ⟨g', cap', rfl⟩ := ownsRow_succ hown'; have hr12 := HC.out.1.row.block ((hgrow.block (s + 3) (by rw [World.size_alloc]; omega) (fun e => (by have := (HC.out.1.own.lt e.symm).1; omega))).trans (bo.block (s + 3) hs3)); have c12b := hr12.cellAt (i := 0) rfl; have f12b := hr12.free 0; have P := wi_push HC.out.1 (kx, vx) ho hgrow hblk rfl; have cmb := P.2.2.1.cellAt (i := 0) rfl; have c12c := P.1.cellAt (i := 0) rfl)
     obtain ⟨p1, p2, p3, p4, p5, p6, p7, p8, p9⟩ := P
     refine ⟨p8, .inr ⟨rfl, acc ++ [(kx, vx)], _, ?_, p1, p2, p4, p5, p6, p7⟩⟩
     rw [HLr.out]
     show (if (0 : Nat) ≠ 0 then _ else _) = _
     rw [if_neg (by decide), if_pos hm, if_pos (by rw [List.length_append]; show most ≤ ((acc.length + 1 : Nat) : Int); omega)]
    ·have hgi : decide (most ≤ (acc.length : Int) + 1) = false := decide_eq_false hge
     have hown2 : (C.alloc (.cells #[.int .u64 (kx.toNat : Int), .int .u64 (vx.toNat : Int)] 104)).ownsRow (s + 10) 104 2 v acc.length (ivs acc) := hown
     have hnews : ∀ j u, ([.int .u64 (kx.toNat : Int), .int .u64 (vx.toNat : Int)] : List Value)[j]? = some u → (C.alloc (.cells #[.int .u64 (kx.toNat : Int), .int .u64 (vx.toNat : Int)] 104)).cell? ((⟨C.heap.size, 0, none⟩ : Addr).add j) = some u := fun j u hj => by
      rw [add_plain]
      exact ro.has.cellAt hj
     have hones : ∀ u ∈ ([.int .u64 (kx.toNat : Int), .int .u64 (vx.toNat : Int)] : List Value), u.oneCell' = true := by simp [Value.oneCell']
     gi_upto_region 8 with (fail)
     have hs3 : s + 3 < C.heap.size := by omega
     gi_wp2_with (gi_at_builtin; refine wpListIn_append_own_at _ rfl _ _ 83 rfl (s + 10) 104 i0 (.agg #[.int .u64 0, .int .u64 0]) 2 16 Tryz.underlying83 hi hz0 hz1 hz2 rfl (by decide) v acc.length (ivs acc) rfl hown2 ⟨C.heap.size, 0, none⟩ 1 1 [.int .u64 (kx.toNat : Int), .int .u64 (vx.toNat : Int)] rfl rfl hnews hones hm2 hm3 (by rw [World.size_alloc]; omega) ?_; intro v' w1 hown' hgrow _ hblk; have ho : OwnJ w1 (s + 10) v' (acc ++ [(kx, vx)]) := (by unfold OwnJ; rw [List.length_append, ivs_append]; exact hown'); obtain ⟨g', cap', rfl⟩ := ownsRow_succ hown'; have hr12 := HC.out.1.row.block ((hgrow.block (s + 3) (by rw [World.size_alloc]; omega) (fun e => (by have := (HC.out.1.own.lt e.symm).1; omega))).trans (bo.block (s + 3) hs3)); have c12b := hr12.cellAt (i := 0) rfl; have f12b := hr12.free 0; have P := wi_push HC.out.1 (kx, vx) ho hgrow hblk rfl; have cmb := P.2.2.1.cellAt (i := 0) rfl; have c12c := P.1.cellAt (i := 0) rfl)
     obtain ⟨p1, p2, p3, p4, p5, p6, p7, p8, p9⟩ := P
     refine ⟨p8, p9, acc ++ [(kx, vx)], _, ?_, ?_, p1, p2, p3, p4, p5, p6, p7⟩
     ·intro r2
      rw [List.append_assoc, HC.out.1.go]
      show (if (0 : Nat) ≠ 0 then _ else _) = _
      rw [if_neg (by decide), if_pos hm, if_neg (by rw [List.length_append]; show ¬ most ≤ ((acc.length + 1 : Nat) : Int); omega)]
      rfl
     ·have hf := HC.out.1.few.1
      rw [List.length_append, List.length_append]
      exact ⟨by show acc.length + 1 ≤ pre.length + 1; omega, .inr (by show ((acc.length + 1 : Nat) : Int) < most; omega)⟩
   ·have hmi : decide (0 < most) = false := decide_eq_false hm
    have hacc : acc = [] := by
     rcases HC.out.1.few.2 with q | q
     ·exact q
     ·omega
    subst hacc
    obtain ⟨A', c', rfl, hir, _⟩ := HC.out.1.own.slice
    have hge : most ≤ 0 := by omega
    have hgi : decide (most ≤ 0) = true := decide_eq_true hge
    have hl0 : (([] : List Itm).length : Int) = 0 := rfl
    gi_wp2
    refine ⟨Book.refl _ _, .inr ⟨rfl, [], _, ?_, HC.out.1.row, HC.out.1.own, HC.out.1.r1, HC.out.1.r2, HC.out.1.low, hbg⟩⟩
    rw [HLr.out]
    show (if (0 : Nat) ≠ 0 then _ else _) = _
    rw [if_neg (by decide), if_neg (show ¬ (0 < most) by omega), if_pos (by show most ≤ ((([] : List Itm).length : Nat) : Int); exact hge)]
  ·have hei : ¬ (((ex : Nat) : Int) = 0) := by omega
   gi_wp2
   refine ⟨⟨(heap_setCell_other _ _ _ _ (show s + 8 ≠ s + 2 by omega)).trans (heap_setCell_other _ _ _ _ (show s + 8 ≠ s + 1 by omega)), (heap_setCell_other _ _ _ _ (show s + 8 + 1 ≠ s + 2 by omega)).trans (heap_setCell_other _ _ _ _ (show s + 8 + 1 ≠ s + 1 by omega))⟩, .inl ⟨rfl, ex, ?_, (HC.out.1.r1.set 0 _).other (by omega), (HC.out.1.r2.other (q := s + 1) (by omega)).set 0 _, (HC.out.1.low.setCell (p := ⟨s + 1, 0, none⟩) (by show s ≤ s + 1; omega) _).setCell (p := ⟨s + 2, 0, none⟩) (by show s ≤ s + 2; omega) _, by have := HC.out.1.big; simpa using this⟩⟩
   rw [HLr.out]
   show (if ex ≠ 0 then _ else _) = _
   rw [if_pos hex]
 case done =>
  rintro xs W rfl ⟨acc, v, hWI⟩ hK
  have hgo := hWI.go []
  rw [List.append_nil] at hgo
  obtain ⟨A', c', rfl, hir, _⟩ := hWI.own.slice
  have c12 := hWI.row.cellAt (i := 0) rfl
  have c1 := hWI.r1.cellAt (i := 0) rfl
  have c2 := hWI.r2.cellAt (i := 0) rfl
  have f1 := hWI.r1.free 0
  have f2 := hWI.r2.free 0
  gi_wp2
  have q1 := ButL.set W (s + 1) 0 (.slice A' acc.length c')
  have q2 := ButL.set (W.setCell ⟨s + 1, 0, none⟩ (.slice A' acc.length c')) (s + 2) 0 (.int .i64 0)
  have hbW := hWI.big
  have hK2 := ((q2.block (s + 8) (by have := q1.size; omega) (by simp only [List.mem_singleton]; omega)).trans (q1.block (s + 8) (by omega) (by simp only [List.mem_singleton]; omega))).trans hK
  refine ⟨by simp, .inl ⟨_, _, rfl, run_takeDeferred hK2, ?_⟩⟩
  have pb := put_but ((W.setCell ⟨s + 1, 0, none⟩ (.slice A' acc.length c')).setCell ⟨s + 2, 0, none⟩ (.int .i64 0)) (s + 8) (.deferred none)
  have q12 := q1.size
  have q22 := q2.size
  refine ⟨_, res_cells rfl _ rfl rfl (((hWI.r1.set 0 _).other (q := s + 2) (by omega)).block (pb.block _ (by omega) (by simp only [List.mem_singleton]; omega))) ((((hWI.r2.other (q := s + 1) (by omega))).set 0 _).block (pb.block _ (by omega) (by simp only [List.mem_singleton]; omega))), .slice A' acc.length c', ?_, ?_, ?_⟩
  ·rw [HR.out, hgo]
   rfl
  ·rw [HR.out, hgo]
   refine OwnJ.mono (hWI.own.same fun j e hj => ?_) (by omega)
   have hj2 := (hWI.own.lt e).1
   exact (pb.block j (by omega) (by simp only [List.mem_singleton]; omega)).trans ((q2.block j (by omega) (by simp only [List.mem_singleton]; omega)).trans (q1.block j hj (by simp only [List.mem_singleton]; omega)))
  ·rw [hs]
   exact hWI.low.trans ((q1.below (B := s) (by simp) (by omega)).trans ((q2.below (B := s) (by simp) (by omega)).trans (pb.below (B := s) (by simp) (by omega))))
 case stop =>
  rintro k pre W (⟨rfl, e, h1, h2, h3, h4, h5⟩ | ⟨rfl, acc, v, h1, h2, h3, h4, h5, h6, h7⟩) hK
  ·have c1 := h2.cellAt (i := 0) rfl
   have c2 := h3.cellAt (i := 0) rfl
   gi_wp2
   refine ⟨by simp, .inl ⟨_, _, rfl, run_takeDeferred hK, ?_⟩⟩
   have pb := put_but W (s + 8) (.deferred none)
   have hb := h5
   refine ⟨_, res_cells rfl _ rfl rfl (h2.block (pb.block _ (by omega) (by simp only [List.mem_singleton]; omega))) (h3.block (pb.block _ (by omega) (by simp only [List.mem_singleton]; omega))), (.slice none 0 0), ?_, ?_, ?_⟩
   ·rw [HR.out, h1]
   ·rw [HR.out, h1]
    exact OwnJ.nil _ _
   ·rw [hs]
    exact h4.trans (pb.below (B := s) (by simp) (by omega))
  ·obtain ⟨A', c', rfl, hir, _⟩ := h3.slice
   have c12 := h2.cellAt (i := 0) rfl
   have c1 := h4.cellAt (i := 0) rfl
   have c2 := h5.cellAt (i := 0) rfl
   have f1 := h4.free 0
   have f2 := h5.free 0
   gi_wp2
   have q1 := ButL.set W (s + 1) 0 (.slice A' acc.length c')
   have q2 := ButL.set (W.setCell ⟨s + 1, 0, none⟩ (.slice A' acc.length c')) (s + 2) 0 (.int .i64 0)
   have q12 := q1.size
   have q22 := q2.size
   have hK2 := ((q2.block (s + 8) (by omega) (by simp only [List.mem_singleton]; omega)).trans (q1.block (s + 8) (by omega) (by simp only [List.mem_singleton]; omega))).trans hK
   refine ⟨by simp, .inl ⟨_, _, rfl, run_takeDeferred hK2, ?_⟩⟩
   have pb := put_but ((W.setCell ⟨s + 1, 0, none⟩ (.slice A' acc.length c')).setCell ⟨s + 2, 0, none⟩ (.int .i64 0)) (s + 8) (.deferred none)
   refine ⟨_, res_cells rfl _ rfl rfl (((h4.set 0 _).other (q := s + 2) (by omega)).block (pb.block _ (by omega) (by simp only [List.mem_singleton]; omega))) ((((h5.other (q := s + 1) (by omega))).set 0 _).block (pb.block _ (by omega) (by simp only [List.mem_singleton]; omega))), .slice A' acc.length c', ?_, ?_, ?_⟩
   ·rw [HR.out, h1]
    rfl
   ·rw [HR.out, h1]
    refine OwnJ.mono (h3.same fun j e hj => ?_) (by omega)
    have hj2 := (h3.lt e).1
    exact (pb.block j (by omega) (by simp only [List.mem_singleton]; omega)).trans ((q2.block j (by omega) (by simp only [List.mem_singleton]; omega)).trans (q1.block j hj (by simp only [List.mem_singleton]; omega)))
   ·rw [hs]
    exact h6.trans ((q1.below (B := s) (by simp) (by omega)).trans ((q2.below (B := s) (by simp) (by omega)).trans (pb.below (B := s) (by simp) (by omega))))
end Go.Proofs.YtogchamogbendaaGreat.Bs
namespace Go.Proofs.YtogchamogbendaaGreat.Bs
open Go.RowKit Oct Mv Tl Pk Pl Go.Maps Go.ChangeMaps
open Lf (Nd Fit nodePage RowN ToldN Rises)
open No (atR at_any)
open Ix (idxPage)
def fq1 : Q := (q0 40).took 2
def fq2 : Q := fq1.took 3
theorem fq0_ok : (q0 40).Ok := ⟨.new (by omega) (by omega), by show 2 ≤ (St.new 40).n; rw [n_new]; omega, Nat.le_refl _, .inr rfl, Nat.zero_le _⟩
theorem fm1 : Moved (q0 40) 0 fq1 2 := ⟨by rw [down1_zero]; exact found_seek fq0_ok (by decide), by rw [down1_zero]; rfl⟩
theorem fq1_ok : fq1.Ok := fq0_ok.took (by have := fm1.1; rwa [down1_zero] at this)
theorem fm2 : Moved fq1 0 fq2 3 := ⟨by rw [down1_zero]; exact found_seek fq1_ok (by decide), by rw [down1_zero]; rfl⟩
def fY : Wk := ⟨fq2, [2], [true], [3], [true]⟩
theorem frun : (Pl.begin (q0 40) [0] [0]).Runs fY := runs_both (.inl rfl) fm1 fm2
theorem fw_y {y : Wk} (h : Begun0 40 y) : y = fY := Wk.Runs.uniq h frun
theorem fw_found {b : Nat} (h : (made0 40 fY).q.Found b) : b = 4 := by
 have hok : (made0 40 fY).q.Ok := ⟨⟨rfl, by decide, by decide⟩, by decide, by decide, by decide, by decide⟩
 exact found_one h (found_seek hok (by decide))
theorem fw_room : (made0 40 fY).q.room = 36 ∧ (made0 40 fY).n = 40 ∧ need 40 = 2 := by decide
theorem not_holds {k : UInt8} (hk : k ≠ 1 ∧ k ≠ 2) (l : List UInt16) : ¬ Lf.Holds (idxPage k l) := fun h => by
 have e : nodePage _ _ _ = idxPage k l := h.2.2.2.2
 have e2 := congrArg List.head? e
 have e3 : Lf.kindN (Lf.leafIn (idxPage k l)) = k := Option.some.inj e2
 unfold Lf.kindN at e3
 split at e3
 ·exact hk.1 e3.symm
 ·exact hk.2 e3.symm
theorem fw_two (hr : Begun0 40 fY) : ¬ Lf.Holds ((made0 40 fY).has 2) := by
 have hg := made_good (by omega) (by omega) hr
 have hp := (hg.opens.pages.cnt 0 (by decide)).2.2
 rw [show (made0 40 fY).has 2 = (made0 40 fY).D.says ((made0 40 fY).l1.getD 0 0) from rfl, hp]
 exact not_holds (by decide) _
theorem has_put (x : BS) (b : Nat) (bs : List UInt8) (i : Nat) : (x.put b bs).has i = if i = b then bs else x.has i := by
 unfold BS.has
 show ((if i = b then some bs else x.fr i).getD (x.D.says i)) = _
 split <;> rfl
theorem fit_leaf : Fit true [2, 5] [20, 50] := by decide
theorem fit_two : Fit false [0, 5] [4, 9] := by decide
def leafW : WR := ⟨true, [2, 5], [20, 50], 1, maxU, 0⟩
section
variable {x : BS}
theorem fw_down (hn : nodeR x 40 (4 : Int) = ⟨true, [2, 5], [20, 50], 0⟩) (key : UInt64) : downR x 40 4 key = leafW := by
 unfold downR
 rw [if_neg (by decide)]
 show (if (nodeR x 40 (4 : Int)).e ≠ 0 then _ else _) = _
 rw [hn]
 rfl
theorem fw_zero (key : UInt64) : downR x 40 0 key = ⟨true, [], [], 0, maxU, 0⟩ := by
 unfold downR
 rw [if_pos rfl]
theorem fw_right0 : rightR x 40 0 = true := by
 unfold rightR
 rw [fw_zero]
 rfl
theorem fw_right (hn : nodeR x 40 (4 : Int) = ⟨true, [2, 5], [20, 50], 0⟩) : rightR x 40 4 = true := by
 unfold rightR
 rw [fw_down hn]
 show rightF x 40 1 4 1 0 maxU = true
 show (decide _ && (_ && _)) = true
 rw [hn]
 rfl
theorem fits_few (T : UInt64) : fitsR true [2, 5] 1 3 0 T = false := by
 unfold fitsR
 rw [show decide ((3 : Nat) ≤ [(2 : UInt64), 5].length) = false from rfl]
 simp
theorem fw_four : IntKind.i64.wrap (((4 : UInt64).toNat : Nat) : Int) = (4 : Int) := by
 rw [show (((4 : UInt64).toNat : Nat) : Int) = 4 from rfl]
 exact wrap_i64 (by omega) (by omega)
theorem fw_at : (atR false [0, 5] [4, 9] 0).1 = 0 := by decide
theorem downF_kid {n : Nat} {key : UInt64} {f lv : Nat} {z z' : Int} {en v : UInt64} {ks vs : List UInt64} {i : Nat} (hn : nodeR x n z = ⟨false, ks, vs, 0⟩) (hi : (atR false ks vs key).1 = i) (hv : vs.getD i 0 = v) (hz : IntKind.i64.wrap (v.toNat : Int) = z') :
  downF x n key (f + 1) lv z en = downF x n key f (lv + 1) z' (lastR ks i en) := by
 show (if (nodeR x n z).e ≠ 0 then _ else _) = _
 rw [hn, if_neg (fun q => q rfl)]
 show (if false = true then _ else _) = _
 rw [if_neg (by decide), hi]
 show downF x n key f (lv + 1) (IntKind.i64.wrap ((vs.getD i 0).toNat : Int)) (lastR ks i en) = _
 rw [hv, hz]
theorem downF_leaf {n : Nat} {key : UInt64} {f lv : Nat} {z : Int} {en : UInt64} {ks vs : List UInt64} (hn : nodeR x n z = ⟨true, ks, vs, 0⟩) : downF x n key (f + 1) lv z en = ⟨true, ks, vs, lv + 1, en, 0⟩ := by
 show (if (nodeR x n z).e ≠ 0 then _ else _) = _
 rw [hn, if_neg (fun q => q rfl)]
 rfl
theorem fw_wrong1 {b : Nat} (hb : nodeR x 40 (b : Int) = ⟨false, [0, 5], [4, 9], 0⟩) (hn : nodeR x 40 (4 : Int) = ⟨true, [2, 5], [20, 50], 0⟩) (h0 : b ≠ 0) : ∃ T, downR x 40 b 0 = ⟨true, [2, 5], [20, 50], 2, T, 0⟩ := by
 unfold downR
 rw [if_neg (by omega)]
 generalize maxU = M
 show ∃ T, downF x 40 0 (7 + 1) 0 (b : Int) M = _
 rw [downF_kid hb fw_at rfl fw_four]
 show ∃ T, downF x 40 0 (6 + 1) (0 + 1) 4 _ = _
 rw [downF_leaf hn]
 exact ⟨_, rfl⟩
theorem fw_few (hn : nodeR x 40 (4 : Int) = ⟨true, [2, 5], [20, 50], 0⟩) (T : UInt64) : rightF x 40 1 4 3 0 T = false := by
 show (decide ((nodeR x 40 (4 : Int)).e = 0) && (fitsR (nodeR x 40 (4 : Int)).l (nodeR x 40 (4 : Int)).ks 1 3 0 T && _)) = false
 rw [hn]
 show (true && (fitsR true [2, 5] 1 3 0 T && _)) = false
 rw [fits_few]
 rfl
theorem fw_wrong {b : Nat} (hb : nodeR x 40 (b : Int) = ⟨false, [0, 5], [4, 9], 0⟩) (hn : nodeR x 40 (4 : Int) = ⟨true, [2, 5], [20, 50], 0⟩) (h0 : b ≠ 0) : rightR x 40 b = false := by
 obtain ⟨T, hd⟩ := fw_wrong1 hb hn h0
 unfold rightR
 rw [hd]
 generalize maxU = M
 show rightF x 40 (1 + 1) b 2 0 M = false
 have ha : ((List.range 2).all fun i => rightF x 40 1 (IntKind.i64.wrap ((([4, 9].getD i 0 : UInt64).toNat : Nat) : Int)) 3 ([0, 5].getD i 0) (lastR [0, 5] i M)) = false := by
  refine all_not (i := 0) (by omega) ?_
  show rightF x 40 1 (IntKind.i64.wrap (((4 : UInt64).toNat : Nat) : Int)) 3 0 (lastR [0, 5] 0 M) = false
  rw [fw_four]
  exact fw_few hn _
 show (decide ((nodeR x 40 (b : Int)).e = 0) && (fitsR (nodeR x 40 (b : Int)).l (nodeR x 40 (b : Int)).ks (1 + 1) 2 0 M && ((nodeR x 40 (b : Int)).l || (List.range (nodeR x 40 (b : Int)).vs.length).all fun i =>
   rightF x 40 1 (IntKind.i64.wrap (((nodeR x 40 (b : Int)).vs.getD i 0).toNat : Int)) 3 ((nodeR x 40 (b : Int)).ks.getD i 0) (lastR (nodeR x 40 (b : Int)).ks i M)))) = false
 rw [hb]
 show (true && (fitsR false [0, 5] (1 + 1) 2 0 M && (false || ((List.range 2).all fun i => rightF x 40 1 (IntKind.i64.wrap ((([4, 9].getD i 0 : UInt64).toNat : Nat) : Int)) 3 ([0, 5].getD i 0) (lastR [0, 5] i M))))) = false
 rw [ha]
 cases fitsR false [0, 5] (1 + 1) 2 0 M <;> rfl
end
theorem fw_get : getF leafW 5 = (50, true, 0) := by
 unfold getF leafW
 rw [if_neg (by decide)]
 rw [if_pos (by decide)]
 rfl
theorem fw_get0 (key : UInt64) : getF ⟨true, [], [], 0, maxU, 0⟩ key = (0, false, 0) := by
 unfold getF
 rw [if_neg (by decide), if_neg]
 unfold atR
 rw [if_pos (by decide)]
 simp
theorem walkL_one (wayF : UInt64 → WR) (tt fr : UInt64) (t : WR) (ht : wayF fr = t) (he : t.e = 0) (hl : tt.toNat ≤ t.last.toNat) : walkL wayF tt 18446744073709551616 fr = (leafRun t fr tt).map (fun p => (p, 0)) := by
 show walkL wayF tt (18446744073709551615 + 1) fr = _
 show (if (wayF fr).e ≠ 0 then _ else _) = _
 rw [ht, if_neg (fun q => q he)]
 rw [if_pos hl, List.append_nil]
theorem walkL_err (wayF : UInt64 → WR) (tt fr : UInt64) (t : WR) (ht : wayF fr = t) (he : t.e ≠ 0) : walkL wayF tt 18446744073709551616 fr = [((0, 0), t.e)] := by
 show walkL wayF tt (18446744073709551615 + 1) fr = _
 show (if (wayF fr).e ≠ 0 then _ else _) = _
 rw [ht, if_pos he]
theorem fw_run1 : leafRun leafW 0 9 = [(2, 20), (5, 50)] := by decide
theorem fw_run2 : leafRun leafW 3 9 = [(5, 50)] := by decide
end Go.Proofs.YtogchamogbendaaGreat.Bs
namespace Go.Proofs.YtogchamogbendaaGreat.Bs
open Lib (hid)
open Go.RowKit Oct Mv Tl Pk Pl Go.Maps Go.ChangeMaps
open Lf (Nd Fit nodePage RowN ToldN Rises)
open No (atR at_any)
theorem room_need {x : BS} (hn : x.n = 40) (hr : 2 < x.q.room) : need x.n < x.q.room := by rw [hn]; exact hr
structure Fw1 (x : BS) : Prop where
 fed : Fed 40 x
 node : nodeR x 40 (4 : Int) = ⟨true, [2, 5], [20, 50], 0⟩
 fr : (x.fr 4).isSome = true
 room : need x.n < x.q.room
 two : ¬ Lf.Holds (x.has 2)
 busy : x.q.s.free 2 = false
theorem fw1 (hr : Begun0 40 fY) (hf : (made0 40 fY).q.Found 4) : Fw1 ((made0 40 fY).put 4 (nodePage true [2, 5] [20, 50])) := by
 have hl : (nodePage true [2, 5] [20, 50]).length = 128 := Lf.length_nodePage _ _ _ rfl (by decide)
 obtain ⟨h1, h2, h3, h4, h5⟩ := (made_fed (by omega) (by omega) hr).put hf hl
 refine ⟨h1, nodeR_yes _ 40 (i := 4) (by omega) (by omega) fit_leaf (by rw [has_put, if_pos rfl]), ?_, room_need h1.xn (by have := fw_room.1; omega), by rw [has_put, if_neg (by omega)]; exact fw_two hr, by show ((made0 40 fY).q.took 4).s.free 2 = false; decide⟩
 show ((if (4 : Nat) = 4 then some (nodePage true [2, 5] [20, 50]) else (made0 40 fY).fr 4)).isSome = true
 rw [if_pos rfl]
 rfl
structure Fw2 (x : BS) (b : Nat) : Prop where
 fed : Fed 40 x
 node : nodeR x 40 (4 : Int) = ⟨true, [2, 5], [20, 50], 0⟩
 top : nodeR x 40 (b : Int) = ⟨false, [0, 5], [4, 9], 0⟩
 pos : b ≠ 0 ∧ b < 40
 two : nodeR x 40 (2 : Int) = ⟨false, [], [], 130⟩
theorem fw2 {x : BS} (h : Fw1 x) {b : Nat} (hf : x.q.Found b) : Fw2 (x.put b (nodePage false [0, 5] [4, 9])) b := by
 have hl : (nodePage false [0, 5] [4, 9]).length = 128 := Lf.length_nodePage _ _ _ rfl (by decide)
 obtain ⟨h1, h2, h3, h4, h5⟩ := h.fed.put hf hl
 have hb4 : b ≠ 4 := fun e => by have := h.fr; rw [← e, h2] at this; cases this
 have h4n := h.node
 refine ⟨h1, ?_, nodeR_yes _ 40 h3 h4 fit_two (by rw [has_put, if_pos rfl]), ⟨by omega, h4⟩, ?_⟩
 ·have e : (x.put b (nodePage false [0, 5] [4, 9])).has 4 = x.has 4 := by rw [has_put, if_neg (fun e => hb4 e.symm)]
  unfold nodeR at h4n ⊢
  rw [show ((4 : Int).toNat) = 4 from rfl] at h4n ⊢
  rw [e]
  exact h4n
 ·refine nodeR_no _ 40 (i := 2) (by omega) (by omega) ?_
  rw [has_put]
  split
  ·rename_i e
   subst e
   have h1 := hf.2.1
   rw [h.busy] at h1
   cases h1
  ·exact h.two
section
variable {Pr : Nat → Prop} {A : Adr} {x : BS}
theorem ways_ok {n : Nat} (hf : Fed n x) (root : Int) : ∀ k, (downR x n root k).e = 0 → k.toNat ≤ (downR x n root k).last.toNat ∧ (downR x n root k).vs.length = (downR x n root k).ks.length ∧ (downR x n root k).ks.length ≤ 7 := fun k => by
 have key : ∀ (f lv : Nat) (z : Int) (en : UInt64), k.toNat ≤ en.toNat → (downF x n k f lv z en).e = 0 → k.toNat ≤ (downF x n k f lv z en).last.toNat ∧ (downF x n k f lv z en).vs.length = (downF x n k f lv z en).ks.length ∧ (downF x n k f lv z en).ks.length ≤ 7 := by
  intro f
  induction f with
  | zero => intro lv z en _ h; exact absurd h (by show (130 : Nat) ≠ 0; decide)
  | succ f ih =>
   intro lv z en hk h
   unfold downF at h ⊢
   by_cases he : (nodeR x n z).e ≠ 0
   ·rw [if_pos he] at h
    exact absurd h he
   ·rw [if_neg he] at h ⊢
    have he0 : (nodeR x n z).e = 0 := by simpa using he
    have hfit := nodeR_fit he0
    by_cases hl : (nodeR x n z).l = true
    ·rw [if_pos hl]
     exact ⟨hk, hfit.2.1, hfit.1⟩
    ·rw [if_neg hl] at h ⊢
     have hlf : (nodeR x n z).l = false := by simpa using hl
     refine ih _ _ _ ?_ h
     rw [hlf] at hfit ⊢
     have hat := at_spec hfit k
     unfold lastR
     split
     ·exact hk
     ·rename_i q
      split
      ·exact hk
      ·have hi := (fit_at hfit k).1
       have h2 := hat.2 ((atR false (nodeR x n z).ks (nodeR x n z).vs k).1 + 1) (by omega) (by omega)
       rw [toNat_pred (by omega)]
       omega
 unfold downR
 split
 ·intro _
  refine ⟨?_, rfl, Nat.zero_le _⟩
  have := k.toNat_lt
  show k.toNat ≤ 18446744073709551615
  omega
 ·refine key 8 0 root maxU ?_
  have := k.toNat_lt
  show k.toNat ≤ 18446744073709551615
  omega
theorem walk_base {n : Nat} (hf : Fed n x) {w : World} (h : BAt Pr w A x) (root : Int) (hz : -9223372036854775808 ≤ root ∧ root ≤ 9223372036854775807) (fr tt : UInt64) (most : Int) (L : List (Itm × Nat)) (hL : L = walkL (downR x n root) tt 18446744073709551616 fr) (hmost : most ≤ 1000000 ∨ L.length ≤ 1000000) (r : List Itm × Nat) (hr : r = walkGo most [] L) :
  Calls Tryz.prog 55 #[.pointer (some ⟨A.b, 0, none⟩), .int .i64 root, .int .u64 (fr.toNat : Int), .int .u64 (tt.toNat : Int), .int .i64 most] w fun e w' =>
   ∃ v, e = .returned (.tuple #[v, .int .i64 (r.2 : Nat)]) ∧ OwnJ w' w.heap.size v r.1 ∧ Below w.heap.size w w' :=
 walk_of root fr tt most (downR x n root) (ways_ok hf root) w (fun W k key => down_any hf (h.below k) root key hz _ rfl) L hL hmost r hr
end
set_option maxHeartbeats 4000000 in
theorem awake13 (w : World) : Calls Tryz.prog 48 #[] w fun e w' => e = .returned (.bool true) ∧ Below w.heap.size w w' := by
 go_enter Tryz.func48, Tryz.ntmps48
 go_wp2_with fail
 refine (show Calls Tryz.prog 49 #[.int .i64 40] w _ from base_made 40 (by omega) (by omega) w).mono ?_
 rintro e w1 ⟨A, y, rfl, hbg, hA, hat, B1⟩
 have hy : y = fY := fw_y hbg
 subst hy
 have HA := hid hA
 have HBG := hid hbg
 have HF0 := hid (made_fed (by omega) (by omega) hbg)
 have H1 := hid hat
 have HB1 := hid B1
 clear hbg hA hat B1
 go_wp2_with fail
 have bl := (Below.refl w1.heap.size w1).alloc (Nat.le_refl _) (.cells #[.int .u64 2, .int .u64 20, .int .u64 5, .int .u64 50] 104)
 have rl := alloc_rowV w1 104 [.int .u64 2, .int .u64 20, .int .u64 5, .int .u64 50]
 have hir : IRow (w1.alloc (.cells #[.int .u64 2, .int .u64 20, .int .u64 5, .int .u64 50] 104)) (some ⟨w1.heap.size, 0, none⟩) 2 2 [(2, 20), (5, 50)] := ⟨rfl, Nat.le_refl _, by decide, (show HasV _ w1.heap.size 0 (ivs [(2, 20), (5, 50)]) from rl.has).told⟩
 refine (build_one HF0.out (H1.out.below bl) (by rw [fw_room.2.1, fw_room.2.2, fw_room.1]; decide) [(2, 20), (5, 50)] hir ⟨by decide, by decide⟩ (by unfold Ris; decide)).mono ?_
 rintro e w2 ⟨b, rfl, hfd, hat, hb⟩
 obtain rfl : b = 4 := fw_found hfd
 have HX := hid (fw1 HBG.out hfd)
 have HB2 := hid (lowb HA.out (HB1.out.trans (bl.mono HB1.out.size)) hb (Nat.le_refl _))
 have H2 := hid (show BAt _ w2 A ((made0 40 fY).put 4 (nodePage true [2, 5] [20, 50])) from hat)
 generalize (made0 40 fY).put 4 (nodePage true [2, 5] [20, 50]) = x1 at *
 clear hfd hat hb bl rl hir H1 HB1 HF0 HBG
 go_wp2_with fail
 refine (show Calls Tryz.prog 52 #[.pointer (some ⟨A.b, 0, none⟩), .int .i64 0] w2 (fun e w' => e = .returned (.bool true) ∧ Below (World.heap w2).size w2 w') from fright_is HX.out.fed H2.out 0 (by omega) true fw_right0.symm).mono ?_
 rintro e w3 ⟨rfl, kz⟩
 have H3 := hid (H2.out.below kz)
 have HB3 := hid (HB2.out.trans (kz.mono HB2.out.size))
 clear kz H2 HB2
 go_wp2_with fail
 refine (show Calls Tryz.prog 52 #[.pointer (some ⟨A.b, 0, none⟩), .int .i64 4] w3 (fun e w' => e = .returned (.bool true) ∧ Below (World.heap w3).size w3 w') from fright_is HX.out.fed H3.out 4 (by omega) true (fw_right HX.out.node).symm).mono ?_
 rintro e w4 ⟨rfl, kz⟩
 have H4 := hid (H3.out.below kz)
 have HB4 := hid (HB3.out.trans (kz.mono HB3.out.size))
 clear kz H3 HB3
 go_wp2_with fail
 refine (show Calls Tryz.prog 53 #[.pointer (some ⟨A.b, 0, none⟩), .int .i64 4, .int .u64 5] w4 (fun e w' => e = .returned (.tuple #[.int .u64 50, .bool true, .int .i64 0]) ∧ Below (World.heap w4).size w4 w') from get_of 4 5 leafW (down_any HX.out.fed H4.out 4 5 (by omega) leafW (fw_down HX.out.node 5).symm) (50, true, 0) fw_get.symm).mono ?_
 rintro e w5 ⟨rfl, kz⟩
 have H5 := hid (H4.out.below kz)
 have HB5 := hid (HB4.out.trans (kz.mono HB4.out.size))
 clear kz H4 HB4
 go_wp2_with fail
 refine (show Calls Tryz.prog 55 #[.pointer (some ⟨A.b, 0, none⟩), .int .i64 4, .int .u64 0, .int .u64 9, .int .i64 9] w5 (fun e w' => ∃ v, e = .returned (.tuple #[v, .int .i64 0]) ∧ OwnJ w' w5.heap.size v [(2, 20), (5, 50)] ∧ Below w5.heap.size w5 w') from walk_base HX.out.fed H5.out 4 (by omega) 0 9 9 (([(2, 20), (5, 50)] : List Itm).map (fun p => (p, 0))) (by rw [walkL_one (downR x1 40 4) 9 0 leafW (fw_down HX.out.node 0) rfl (by decide), fw_run1]) (.inl (by decide)) ([(2, 20), (5, 50)], 0) (by decide)).mono ?_
 rintro e w6 ⟨va, rfl, ho, kz⟩
 have H6 := hid (H5.out.below kz)
 have HB6 := hid (HB5.out.trans (kz.mono HB5.out.size))
 have HLa := hid (show OwnJ w6 w5.heap.size va [(2, 20), (5, 50)] ∧ ∀ j ∈ A.list, j < w5.heap.size from ⟨ho, H5.out.list_lt⟩)
 obtain ⟨ga, ca, rfl⟩ := ownsRow_succ (k := 1) ho
 have HKa := hid (ButL.refl w6 A.list)
 clear kz ho H5 HB5
 go_wp2_with fail
 refine (show Calls Tryz.prog 55 #[.pointer (some ⟨A.b, 0, none⟩), .int .i64 4, .int .u64 3, .int .u64 9, .int .i64 9] w6 (fun e w' => ∃ v, e = .returned (.tuple #[v, .int .i64 0]) ∧ OwnJ w' w6.heap.size v [(5, 50)] ∧ Below w6.heap.size w6 w') from walk_base HX.out.fed H6.out 4 (by omega) 3 9 9 (([(5, 50)] : List Itm).map (fun p => (p, 0))) (by rw [walkL_one (downR x1 40 4) 9 3 leafW (fw_down HX.out.node 3) rfl (by decide), fw_run2]) (.inl (by decide)) ([(5, 50)], 0) (by decide)).mono ?_
 rintro e w7 ⟨vb, rfl, ho, kz⟩
 have H7 := hid (H6.out.below kz)
 have HB7 := hid (HB6.out.trans (kz.mono HB6.out.size))
 have HLb := hid (show OwnJ w7 w6.heap.size vb [(5, 50)] ∧ ∀ j ∈ A.list, j < w6.heap.size from ⟨ho, H6.out.list_lt⟩)
 obtain ⟨gb, cb, rfl⟩ := ownsRow_succ (k := 0) ho
 have HKa := hid (HKa.out.trans (ButL.of_below A.list kz (Nat.le_refl _)))
 have HKb := hid (ButL.refl w7 A.list)
 clear kz ho H6 HB6
 go_wp2_with fail
 refine (show Calls Tryz.prog 56 #[.pointer (some ⟨A.b, 0, none⟩), .int .i64 4] w7 (fun e w' => e = .returned (.tuple #[.int .i64 1, .int .i64 0]) ∧ Below (World.heap w7).size w7 w') from height_of 4 leafW (down_any HX.out.fed H7.out 4 0 (by omega) leafW (fw_down HX.out.node 0).symm)).mono ?_
 rintro e w8 ⟨rfl, kz⟩
 have H8 := hid (H7.out.below kz)
 have HB8 := hid (HB7.out.trans (kz.mono HB7.out.size))
 have HKa := hid (HKa.out.trans (ButL.of_below A.list kz (Nat.le_refl _)))
 have HKb := hid (HKb.out.trans (ButL.of_below A.list kz (Nat.le_refl _)))
 clear kz H7 HB7
 go_wp2_with fail
 refine (show Calls Tryz.prog 53 #[.pointer (some ⟨A.b, 0, none⟩), .int .i64 0, .int .u64 5] w8 (fun e w' => e = .returned (.tuple #[.int .u64 0, .bool false, .int .i64 0]) ∧ Below (World.heap w8).size w8 w') from get_of 0 5 ⟨true, [], [], 0, maxU, 0⟩ (down_any HX.out.fed H8.out 0 5 (by omega) _ (fw_zero 5).symm) (0, false, 0) (fw_get0 5).symm).mono ?_
 rintro e w9 ⟨rfl, kz⟩
 have H9 := hid (H8.out.below kz)
 have HB9 := hid (HB8.out.trans (kz.mono HB8.out.size))
 have HKa := hid (HKa.out.trans (ButL.of_below A.list kz (Nat.le_refl _)))
 have HKb := hid (HKb.out.trans (ButL.of_below A.list kz (Nat.le_refl _)))
 clear kz H8 HB8
 go_wp2_with fail
 have b1 := (Below.refl w9.heap.size w9).alloc (Nat.le_refl _) (.cells #[.int .u64 0, .int .u64 5] 30)
 have r1 := alloc_rowV w9 30 [.int .u64 0, .int .u64 5]
 have s1 : (w9.alloc (.cells #[.int .u64 0, .int .u64 5] 30)).heap.size = w9.heap.size + 1 := World.size_alloc ..
 have b2 := (Below.refl (w9.alloc (.cells #[.int .u64 0, .int .u64 5] 30)).heap.size (w9.alloc (.cells #[.int .u64 0, .int .u64 5] 30))).alloc (Nat.le_refl _) (.cells #[.int .u64 4, .int .u64 9] 30)
 have r2 := alloc_rowV (w9.alloc (.cells #[.int .u64 0, .int .u64 5] 30)) 30 [.int .u64 4, .int .u64 9]
 rw [s1] at r2 b2
 have r1b := r1.below (by omega) b2
 have b12 := b1.trans (b2.mono (by omega))
 have hnd : Nd ((w9.alloc (.cells #[.int .u64 0, .int .u64 5] 30)).alloc (.cells #[.int .u64 4, .int .u64 9] 30)) (some ⟨w9.heap.size, 0, none⟩) 2 2 (some ⟨w9.heap.size + 1, 0, none⟩) 2 2 [0, 5] [4, 9] := ⟨rfl, rfl, Nat.le_refl _, by decide, Nat.le_refl _, by decide, .inr ⟨_, _, rfl, fun i hi => by
  match i, hi with
  | 0, _ => exact r1b.cellAt (i := 0) rfl
  | 1, _ => exact r1b.cellAt (i := 1) rfl⟩, .inr ⟨_, _, rfl, fun i hi => by
  match i, hi with
  | 0, _ => exact r2.cellAt (i := 0) rfl
  | 1, _ => exact r2.cellAt (i := 1) rfl⟩⟩
 refine (put_law HX.out.fed (H9.out.below b12) HX.out.room false hnd fit_two).mono ?_
 rintro e w10 ⟨bb, rfl, hfd, hat, hb⟩
 have HY := hid (fw2 HX.out hfd)
 have HB10 := hid (lowb HA.out (HB9.out.trans (b12.mono HB9.out.size)) hb (Nat.le_refl _))
 have H10 := hid (show BAt _ w10 A (x1.put bb (nodePage false [0, 5] [4, 9])) from hat)
 have HKa := hid (HKa.out.trans ((ButL.of_below A.list b12 (Nat.le_refl _)).trans hb))
 have HKb := hid (HKb.out.trans ((ButL.of_below A.list b12 (Nat.le_refl _)).trans hb))
 generalize x1.put bb (nodePage false [0, 5] [4, 9]) = x2 at *
 clear b1 r1 s1 b2 r2 r1b b12 hnd hfd hat hb H9 HB9
 go_wp2_with fail
 refine (show Calls Tryz.prog 61 #[.pointer (some ⟨A.b, 0, none⟩), .int .i64 2] w10 _ from fnode_any HY.out.fed H10.out 2 ⟨false, [], [], 130⟩ HY.out.two.symm).mono ?_
 rintro e w11 ⟨KK, kk, VV, vv, rfl, _, kz, _, _⟩
 have al := (Below.refl w11.heap.size w11).alloc (Nat.le_refl _) (.cells #[.bool false, .slice KK 0 kk, .slice VV 0 vv] 107)
 have BB := kz.trans (al.mono kz.size)
 have H11 := hid (H10.out.below BB)
 have HB11 := hid (HB10.out.trans (BB.mono HB10.out.size))
 have hkb := HKb.out.trans (ButL.of_below A.list BB (Nat.le_refl _))
 have hob := World.ownsRow.cellAt HLb.out.1 0 (by decide)
 have hbl := (HLb.out.1.lt (k := gb) rfl)
 have cb : (w11.alloc (.cells #[.bool false, .slice KK 0 kk, .slice VV 0 vv] 107)).cell? ⟨gb, 0, none⟩ = some (.int .u64 5) := (World.cell?_of_block (a := ⟨gb, 0, none⟩) (hkb.block gb hbl.2 (fun q => by have := HLb.out.2 gb q; omega))).trans (hob.trans rfl)
 have hbp : ((bb : Nat) : Int) < 40 ∧ (0 : Int) ≤ (bb : Int) := by have := HY.out.pos.2; omega
 clear kz al BB hkb hob hbl
 go_wp2_with fail
 refine (show Calls Tryz.prog 52 #[.pointer (some ⟨A.b, 0, none⟩), .int .i64 (bb : Int)] _ (fun e w' => e = .returned (.bool false) ∧ Below _ _ w') from fright_is HY.out.fed H11.out (bb : Int) (by omega) false (fw_wrong HY.out.top HY.out.node HY.out.pos.1).symm).mono ?_
 rintro e wz ⟨rfl, kz⟩
 go_wp2_with fail
 go_ret
 exact ⟨rfl, HB11.out.trans (kz.mono HB11.out.size)⟩
end Go.Proofs.YtogchamogbendaaGreat.Bs
namespace Go.Proofs.YtogchamogbendaaGreat.Bs
open Lib (hid)
open Go.RowKit Oct Mv Tl Pk Pl Go.Maps Go.ChangeMaps
open Lf (Nd Fit nodePage RowN ToldN Rises)
theorem u64_nat {n : Int} (h : (Lit.int .u64 n).wf = true) : ∃ c : UInt64, n = (c.toNat : Int) := by
 have h2 : IntKind.u64.min ≤ n ∧ n ≤ IntKind.u64.max := by simpa [Lit.wf] using h
 have h0 : IntKind.u64.min = 0 := rfl
 have h1 : IntKind.u64.max = 18446744073709551615 := rfl
 rw [h0, h1] at h2
 refine ⟨UInt64.ofNat n.toNat, ?_⟩
 rw [UInt64.toNat_ofNat', Nat.mod_eq_of_lt (by show n.toNat < 18446744073709551616; omega)]
 omega
theorem i64_in {n : Int} (h : (Lit.int .i64 n).wf = true) : -9223372036854775808 ≤ n ∧ n ≤ 9223372036854775807 := by
 have h2 : IntKind.i64.min ≤ n ∧ n ≤ IntKind.i64.max := by simpa [Lit.wf] using h
 have h0 : IntKind.i64.min = -9223372036854775808 := rfl
 have h1 : IntKind.i64.max = 9223372036854775807 := rfl
 rw [h0, h1] at h2
 exact h2
theorem walk_nay (p : Option Addr) (w : World) (h : BNay w (.pointer p)) (root : Int) (fr tt : UInt64) (most : Int) :
  Calls Tryz.prog 55 #[.pointer p, .int .i64 root, .int .u64 (fr.toNat : Int), .int .u64 (tt.toNat : Int), .int .i64 most] w fun e w' => ∃ v, e = .returned (.tuple #[v, .int .i64 1]) ∧ OwnJ w' w.heap.size v [] ∧ Below w.heap.size w w' :=
 walk_of root fr tt most (fun _ => noWay 1) (fun k hk => absurd hk (by show (1 : Nat) ≠ 0; decide)) w (fun W hW k => way_nay _ W (h.below hW) root k) [((0, 0), 1)] (walkL_err _ _ _ (noWay 1) rfl (by show (1 : Nat) ≠ 0; decide)).symm (.inr (by decide)) ([], 1) rfl
theorem right_out {x : BS} {n : Int} (h : n < 2 ∨ 40 ≤ n) (h0 : n ≠ 0) : rightR x 40 n = false := by
 have hd : downR x 40 n 0 = noWay 2 := by
  unfold downR
  rw [if_neg h0]
  show (if (nodeR x 40 n).e ≠ 0 then _ else _) = _
  rw [nodeR_bad x 40 (by omega)]
  rfl
 unfold rightR
 rw [hd]
 rfl
theorem run_zero (fr tt : UInt64) : leafRun ⟨true, [], [], 0, maxU, 0⟩ fr tt = [] := by
 unfold leafRun runOn
 simp
set_option maxHeartbeats 4000000 in
theorem fnone_walk (n kn : Int) (w : World) (hn : (Lit.int .i64 n).wf = true) (hk : (Lit.int .u64 kn).wf = true) : Calls Tryz.prog 10 #[.int .i64 n, .int .u64 kn] w fun e w' => e = .returned (.bool true) ∧ Below w.heap.size w w' := by
 obtain ⟨key, rfl⟩ := u64_nat hk
 have HZ := hid (i64_in hn)
 have hz := base_zero
 have R1 := alloc_rowV w 72 zero44
 have B1 := (Below.refl w.heap.size w).alloc (Nat.le_refl _) (.cells zero44.toArray 72)
 have e1 : (w.alloc (.cells zero44.toArray 72)).heap.size = w.heap.size + 1 := by simp
 have B2 := (Below.refl _ (w.alloc (.cells zero44.toArray 72))).alloc (Nat.le_refl _) (.cells #[.pointer none, .pointer (some ⟨w.heap.size, 0, none⟩)] 24)
 have R2 := alloc_rowV (w.alloc (.cells zero44.toArray 72)) 24 [.pointer none, .pointer (some ⟨w.heap.size, 0, none⟩)]
 rw [e1] at R2 B2
 have HB0 := hid (B1.trans (B2.mono (by omega)))
 have HC := hid (show ((w.alloc (.cells zero44.toArray 72)).alloc (.cells #[.pointer none, .pointer (some ⟨w.heap.size, 0, none⟩)] 24)).cell? ⟨w.heap.size, 43, none⟩ = some (.pointer none) from (R1.below (by omega) B2).cellAt (i := 43) rfl)
 have HR2 := hid R2
 clear R1 B1 B2 R2 e1 hn hk
 unfold zero44 at HB0 HC HR2
 go_enter Tryz.func10, Tryz.ntmps10
 go_upto_region 2 with (fail)
 generalize (w.alloc (.cells #[.pointer none, .pointer none, .pointer none, .slice none 0 0, .slice none 0 0, (.int .u64 0), (.int .u32 0), (.int .u32 0), (.int .u32 0), (.int .u32 0), (.int .u32 0), (.int .u32 0), (.int .u32 0), (.int .u32 0), (.int .u32 0), (.int .u64 0), (.int .u64 0), (.int .u64 0), (.int .u64 0), (.int .u64 0), (.int .u64 0), (.int .u64 0), (.int .u64 0), (.int .u64 0), (.int .u32 0), (.int .u32 0), (.int .u32 0), (.int .u32 0), (.int .u32 0), (.int .u32 0), (.int .u32 0), (.int .u32 0), (.int .u32 0), (.int .u64 0), (.int .u64 0), (.int .u64 0), (.int .u64 0), (.int .u64 0), (.int .u64 0), (.int .u64 0), (.int .u64 0), .map none, .bool false, .pointer none] 72)).alloc (.cells #[.pointer none, .pointer (some ⟨w.heap.size, 0, none⟩)] 24) = w1 at *
 go_loopw [31] (fun i wr => ∃ k : Nat, k ≤ 2 ∧ i = .int .i64 (k : Int) ∧ Hid (Below w1.heap.size w1 wr)) (fun i _ => 2 - (Go.RowKit.intOf i).toNat)
 case atStart => exact ⟨0, by omega, rfl, hid (Below.refl _ _)⟩
 case round =>
  obtain ⟨k, hk, rfl, HBr⟩ := hrel
  have r2 := HR2.out.below HR2.out.lt HBr.out
  rcases (show k = 0 ∨ k = 1 ∨ k = 2 by omega) with rfl | rfl | rfl
  ·have c0 := r2.cellAt (i := 0) rfl
   have HN := hid (show ∀ wx, Below w1.heap.size w1 wx → BNay wx (.pointer (none)) from fun _ _ => .inl rfl)
   clear r2
   go_wp2_with fail
   refine (fnode_nay _ n _ (HN.out _ HBr.out)).mono ?_
   rintro e wa ⟨rfl, kz⟩
   have HBa := hid (HBr.out.trans (kz.mono HBr.out.size))
   clear kz HBr c0
   have al := (Below.refl wa.heap.size wa).alloc (Nat.le_refl _) (.cells #[.bool false, .slice none 0 0, .slice none 0 0] 107)
   have HBb := hid (HBa.out.trans (al.mono HBa.out.size))
   clear al HBa
   go_wp2_with fail
   refine (show Calls Tryz.prog 53 #[.pointer (none), .int .i64 n, .int .u64 (key.toNat : Int)] _ (fun e w' => e = .returned (.tuple #[.int .u64 0, .bool false, .int .i64 1]) ∧ Below _ _ w') from get_of n key (noWay 1) (way_nay _ _ (HN.out _ HBb.out) n key) (0, false, 1) rfl).mono ?_
   rintro e wc ⟨rfl, kz⟩
   have HBc := hid (HBb.out.trans (kz.mono HBb.out.size))
   clear kz HBb
   go_wp2_with fail
   refine (walk_nay (none) _ (HN.out _ HBc.out) n 0 key 5).mono ?_
   rintro e wd ⟨v, rfl, _, kz⟩
   have HBd := hid (HBc.out.trans (kz.mono HBc.out.size))
   clear kz HBc
   go_wp2_with fail
   refine (show Calls Tryz.prog 56 #[.pointer (none), .int .i64 n] _ (fun e w' => e = .returned (.tuple #[.int .i64 0, .int .i64 1]) ∧ Below _ _ w') from height_of n (noWay 1) (way_nay _ _ (HN.out _ HBd.out) n 0)).mono ?_
   rintro e we ⟨rfl, kz⟩
   have HBe := hid (HBd.out.trans (kz.mono HBd.out.size))
   clear kz HBd
   go_wp2_with fail
   refine (show Calls Tryz.prog 52 #[.pointer (none), .int .i64 n] _ (fun e w' => e = .returned (.bool false) ∧ Below _ _ w') from right_low n (noWay 1) (way_nay _ _ (HN.out _ HBe.out) n 0) rfl).mono ?_
   rintro e wf ⟨rfl, kz⟩
   have HBf := hid (HBe.out.trans (kz.mono HBe.out.size))
   clear kz HBe
   go_wp2_with fail
   go_roundw
   case rel => exact ⟨1, by omega, rfl, HBf⟩
   case measure => simp [Go.RowKit.intOf]
  ·have c0 := r2.cellAt (i := 1) rfl
   have HN := hid (show ∀ wx, Below w1.heap.size w1 wx → BNay wx (.pointer (some ⟨w.heap.size, 0, none⟩)) from fun wx kx => (BNay.below (.inr ⟨_, rfl, HC.out⟩) kx))
   clear r2
   go_wp2_with fail
   refine (fnode_nay _ n _ (HN.out _ HBr.out)).mono ?_
   rintro e wa ⟨rfl, kz⟩
   have HBa := hid (HBr.out.trans (kz.mono HBr.out.size))
   clear kz HBr c0
   have al := (Below.refl wa.heap.size wa).alloc (Nat.le_refl _) (.cells #[.bool false, .slice none 0 0, .slice none 0 0] 107)
   have HBb := hid (HBa.out.trans (al.mono HBa.out.size))
   clear al HBa
   go_wp2_with fail
   refine (show Calls Tryz.prog 53 #[.pointer (some ⟨w.heap.size, 0, none⟩), .int .i64 n, .int .u64 (key.toNat : Int)] _ (fun e w' => e = .returned (.tuple #[.int .u64 0, .bool false, .int .i64 1]) ∧ Below _ _ w') from get_of n key (noWay 1) (way_nay _ _ (HN.out _ HBb.out) n key) (0, false, 1) rfl).mono ?_
   rintro e wc ⟨rfl, kz⟩
   have HBc := hid (HBb.out.trans (kz.mono HBb.out.size))
   clear kz HBb
   go_wp2_with fail
   refine (walk_nay (some ⟨w.heap.size, 0, none⟩) _ (HN.out _ HBc.out) n 0 key 5).mono ?_
   rintro e wd ⟨v, rfl, _, kz⟩
   have HBd := hid (HBc.out.trans (kz.mono HBc.out.size))
   clear kz HBc
   go_wp2_with fail
   refine (show Calls Tryz.prog 56 #[.pointer (some ⟨w.heap.size, 0, none⟩), .int .i64 n] _ (fun e w' => e = .returned (.tuple #[.int .i64 0, .int .i64 1]) ∧ Below _ _ w') from height_of n (noWay 1) (way_nay _ _ (HN.out _ HBd.out) n 0)).mono ?_
   rintro e we ⟨rfl, kz⟩
   have HBe := hid (HBd.out.trans (kz.mono HBd.out.size))
   clear kz HBd
   go_wp2_with fail
   refine (show Calls Tryz.prog 52 #[.pointer (some ⟨w.heap.size, 0, none⟩), .int .i64 n] _ (fun e w' => e = .returned (.bool false) ∧ Below _ _ w') from right_low n (noWay 1) (way_nay _ _ (HN.out _ HBe.out) n 0) rfl).mono ?_
   rintro e wf ⟨rfl, kz⟩
   have HBf := hid (HBe.out.trans (kz.mono HBe.out.size))
   clear kz HBe
   go_wp2_with fail
   go_roundw
   case rel => exact ⟨2, by omega, rfl, HBf⟩
   case measure => simp [Go.RowKit.intOf]
  ·clear r2
   have HB1 := hid (HB0.out.trans (HBr.out.mono HB0.out.size))
   clear HBr HB0
   go_wp2_with fail
   refine (show Calls Tryz.prog 49 #[.int .i64 40] wr _ from base_made 40 (by omega) (by omega) wr).mono ?_
   rintro e w2 ⟨A, y, rfl, hbg, hA, hat, kz⟩
   have HF := hid (made_fed (by omega) (by omega) hbg)
   have H2 := hid hat
   have HB2 := hid (HB1.out.trans (kz.mono HB1.out.size))
   clear hbg hA hat kz HB1
   generalize made0 40 y = x at *
   by_cases hlo : n < 2
   ·have hli : decide (n < 2) = true := decide_eq_true hlo
    go_wp2_with fail
    refine (show Calls Tryz.prog 61 #[.pointer (some ⟨A.b, 0, none⟩), .int .i64 n] w2 _ from fnode_any HF.out H2.out n ⟨false, [], [], 2⟩ (nodeR_bad x 40 (.inl hlo)).symm).mono ?_
    rintro e w3 ⟨KK, kk, VV, vv, rfl, _, kz, _, _⟩
    have al := (Below.refl w3.heap.size w3).alloc (Nat.le_refl _) (.cells #[.bool false, .slice KK 0 kk, .slice VV 0 vv] 107)
    have BB := kz.trans (al.mono kz.size)
    have H3 := hid (H2.out.below BB)
    have HB3 := hid (HB2.out.trans (BB.mono HB2.out.size))
    clear kz al BB H2 HB2
    by_cases hz0 : n = 0
    ·subst hz0
     go_wp2_with fail
     refine (show Calls Tryz.prog 53 #[.pointer (some ⟨A.b, 0, none⟩), .int .i64 0, .int .u64 (key.toNat : Int)] _ (fun e w' => e = .returned (.tuple #[.int .u64 0, .bool false, .int .i64 0]) ∧ Below _ _ w') from get_of 0 key ⟨true, [], [], 0, maxU, 0⟩ (down_any HF.out H3.out 0 key (by omega) _ (fw_zero key).symm) (0, false, 0) (fw_get0 key).symm).mono ?_
     rintro e wp ⟨rfl, kz⟩
     have Hp := hid (H3.out.below kz)
     have HBp := hid (HB3.out.trans (kz.mono HB3.out.size))
     clear kz H3 HB3
     go_wp2_with fail
     refine (show Calls Tryz.prog 55 #[.pointer (some ⟨A.b, 0, none⟩), .int .i64 0, .int .u64 0, .int .u64 (key.toNat : Int), .int .i64 5] wp (fun e w' => ∃ v, e = .returned (.tuple #[v, .int .i64 0]) ∧ OwnJ w' wp.heap.size v [] ∧ Below wp.heap.size wp w') from walk_base HF.out Hp.out 0 (by omega) 0 key 5 [] (by rw [walkL_one (downR x 40 0) key 0 ⟨true, [], [], 0, maxU, 0⟩ (fw_zero 0) rfl (by have := key.toNat_lt; show key.toNat ≤ 18446744073709551615; omega), run_zero]; rfl) (.inl (by decide)) ([], 0) rfl).mono ?_
     rintro e wq ⟨v, rfl, ho, kz⟩
     obtain ⟨A', c', rfl, _, _⟩ := ho.slice
     have Hq := hid (Hp.out.below kz)
     have HBq := hid (HBp.out.trans (kz.mono HBp.out.size))
     clear kz ho Hp HBp
     go_wp2_with fail
     refine (show Calls Tryz.prog 56 #[.pointer (some ⟨A.b, 0, none⟩), .int .i64 0] _ (fun e w' => e = .returned (.tuple #[.int .i64 0, .int .i64 0]) ∧ Below _ _ w') from height_of 0 ⟨true, [], [], 0, maxU, 0⟩ (down_any HF.out Hq.out 0 0 (by omega) _ (fw_zero 0).symm)).mono ?_
     rintro e wr2 ⟨rfl, kz⟩
     have HBr2 := hid (HBq.out.trans (kz.mono HBq.out.size))
     clear kz Hq HBq
     have hl0 : (([] : List Itm).length : Int) = 0 := rfl
     go_wp2_with fail
     refine (awake13 _).mono ?_
     rintro e ws ⟨rfl, kz⟩
     go_wp2_with fail
     go_ret
     exact ⟨rfl, HBr2.out.trans (kz.mono HBr2.out.size)⟩
    ·skip
     have hne : (n != 0) = true := by simpa using hz0
     go_wp2_with fail
     refine (show Calls Tryz.prog 52 #[.pointer (some ⟨A.b, 0, none⟩), .int .i64 n] _ (fun e w' => e = .returned (.bool false) ∧ Below _ _ w') from fright_is HF.out H3.out n HZ.out false (right_out (.inl hlo) hz0).symm).mono ?_
     rintro e w4 ⟨rfl, kz⟩
     have H4 := hid (H3.out.below kz)
     have HB4 := hid (HB3.out.trans (kz.mono HB3.out.size))
     clear kz H3 HB3
     go_wp2_with fail
     refine (show Calls Tryz.prog 53 #[.pointer (some ⟨A.b, 0, none⟩), .int .i64 0, .int .u64 (key.toNat : Int)] _ (fun e w' => e = .returned (.tuple #[.int .u64 0, .bool false, .int .i64 0]) ∧ Below _ _ w') from get_of 0 key ⟨true, [], [], 0, maxU, 0⟩ (down_any HF.out H4.out 0 key (by omega) _ (fw_zero key).symm) (0, false, 0) (fw_get0 key).symm).mono ?_
     rintro e wp ⟨rfl, kz⟩
     have Hp := hid (H4.out.below kz)
     have HBp := hid (HB4.out.trans (kz.mono HB4.out.size))
     clear kz H4 HB4
     go_wp2_with fail
     refine (show Calls Tryz.prog 55 #[.pointer (some ⟨A.b, 0, none⟩), .int .i64 0, .int .u64 0, .int .u64 (key.toNat : Int), .int .i64 5] wp (fun e w' => ∃ v, e = .returned (.tuple #[v, .int .i64 0]) ∧ OwnJ w' wp.heap.size v [] ∧ Below wp.heap.size wp w') from walk_base HF.out Hp.out 0 (by omega) 0 key 5 [] (by rw [walkL_one (downR x 40 0) key 0 ⟨true, [], [], 0, maxU, 0⟩ (fw_zero 0) rfl (by have := key.toNat_lt; show key.toNat ≤ 18446744073709551615; omega), run_zero]; rfl) (.inl (by decide)) ([], 0) rfl).mono ?_
     rintro e wq ⟨v, rfl, ho, kz⟩
     obtain ⟨A', c', rfl, _, _⟩ := ho.slice
     have Hq := hid (Hp.out.below kz)
     have HBq := hid (HBp.out.trans (kz.mono HBp.out.size))
     clear kz ho Hp HBp
     go_wp2_with fail
     refine (show Calls Tryz.prog 56 #[.pointer (some ⟨A.b, 0, none⟩), .int .i64 0] _ (fun e w' => e = .returned (.tuple #[.int .i64 0, .int .i64 0]) ∧ Below _ _ w') from height_of 0 ⟨true, [], [], 0, maxU, 0⟩ (down_any HF.out Hq.out 0 0 (by omega) _ (fw_zero 0).symm)).mono ?_
     rintro e wr2 ⟨rfl, kz⟩
     have HBr2 := hid (HBq.out.trans (kz.mono HBq.out.size))
     clear kz Hq HBq
     have hl0 : (([] : List Itm).length : Int) = 0 := rfl
     go_wp2_with fail
     refine (awake13 _).mono ?_
     rintro e ws ⟨rfl, kz⟩
     go_wp2_with fail
     go_ret
     exact ⟨rfl, HBr2.out.trans (kz.mono HBr2.out.size)⟩
   ·have hli : decide (n < 2) = false := decide_eq_false hlo
    go_wp2_with fail
    refine (blocks_at H2.out (by rw [HF.out.blk]; omega)).mono ?_
    rintro e w' ⟨rfl, rfl⟩
    rw [HF.out.blk]
    by_cases hhi : 40 ≤ n
    ·have hhd : decide (((40 : Nat) : Int) ≤ n) = true := decide_eq_true hhi
     have hhe : decide ((40 : Int) ≤ n) = true := decide_eq_true hhi
     have hz0 : n ≠ 0 := by omega
     go_wp2_with fail
     refine (show Calls Tryz.prog 61 #[.pointer (some ⟨A.b, 0, none⟩), .int .i64 n] w2 _ from fnode_any HF.out H2.out n ⟨false, [], [], 2⟩ (nodeR_bad x 40 (.inr hhi)).symm).mono ?_
     rintro e w3 ⟨KK, kk, VV, vv, rfl, _, kz, _, _⟩
     have al := (Below.refl w3.heap.size w3).alloc (Nat.le_refl _) (.cells #[.bool false, .slice KK 0 kk, .slice VV 0 vv] 107)
     have BB := kz.trans (al.mono kz.size)
     have H3 := hid (H2.out.below BB)
     have HB3 := hid (HB2.out.trans (BB.mono HB2.out.size))
     clear kz al BB H2 HB2
     have hne : (n != 0) = true := by simpa using hz0
     go_wp2_with fail
     refine (show Calls Tryz.prog 52 #[.pointer (some ⟨A.b, 0, none⟩), .int .i64 n] _ (fun e w' => e = .returned (.bool false) ∧ Below _ _ w') from fright_is HF.out H3.out n HZ.out false (right_out (.inr hhi) hz0).symm).mono ?_
     rintro e w4 ⟨rfl, kz⟩
     have H4 := hid (H3.out.below kz)
     have HB4 := hid (HB3.out.trans (kz.mono HB3.out.size))
     clear kz H3 HB3
     go_wp2_with fail
     refine (show Calls Tryz.prog 53 #[.pointer (some ⟨A.b, 0, none⟩), .int .i64 0, .int .u64 (key.toNat : Int)] _ (fun e w' => e = .returned (.tuple #[.int .u64 0, .bool false, .int .i64 0]) ∧ Below _ _ w') from get_of 0 key ⟨true, [], [], 0, maxU, 0⟩ (down_any HF.out H4.out 0 key (by omega) _ (fw_zero key).symm) (0, false, 0) (fw_get0 key).symm).mono ?_
     rintro e wp ⟨rfl, kz⟩
     have Hp := hid (H4.out.below kz)
     have HBp := hid (HB4.out.trans (kz.mono HB4.out.size))
     clear kz H4 HB4
     go_wp2_with fail
     refine (show Calls Tryz.prog 55 #[.pointer (some ⟨A.b, 0, none⟩), .int .i64 0, .int .u64 0, .int .u64 (key.toNat : Int), .int .i64 5] wp (fun e w' => ∃ v, e = .returned (.tuple #[v, .int .i64 0]) ∧ OwnJ w' wp.heap.size v [] ∧ Below wp.heap.size wp w') from walk_base HF.out Hp.out 0 (by omega) 0 key 5 [] (by rw [walkL_one (downR x 40 0) key 0 ⟨true, [], [], 0, maxU, 0⟩ (fw_zero 0) rfl (by have := key.toNat_lt; show key.toNat ≤ 18446744073709551615; omega), run_zero]; rfl) (.inl (by decide)) ([], 0) rfl).mono ?_
     rintro e wq ⟨v, rfl, ho, kz⟩
     obtain ⟨A', c', rfl, _, _⟩ := ho.slice
     have Hq := hid (Hp.out.below kz)
     have HBq := hid (HBp.out.trans (kz.mono HBp.out.size))
     clear kz ho Hp HBp
     go_wp2_with fail
     refine (show Calls Tryz.prog 56 #[.pointer (some ⟨A.b, 0, none⟩), .int .i64 0] _ (fun e w' => e = .returned (.tuple #[.int .i64 0, .int .i64 0]) ∧ Below _ _ w') from height_of 0 ⟨true, [], [], 0, maxU, 0⟩ (down_any HF.out Hq.out 0 0 (by omega) _ (fw_zero 0).symm)).mono ?_
     rintro e wr2 ⟨rfl, kz⟩
     have HBr2 := hid (HBq.out.trans (kz.mono HBq.out.size))
     clear kz Hq HBq
     have hl0 : (([] : List Itm).length : Int) = 0 := rfl
     go_wp2_with fail
     refine (awake13 _).mono ?_
     rintro e ws ⟨rfl, kz⟩
     go_wp2_with fail
     go_ret
     exact ⟨rfl, HBr2.out.trans (kz.mono HBr2.out.size)⟩
    ·have hhd : decide (((40 : Nat) : Int) ≤ n) = false := decide_eq_false hhi
     have hhe : decide ((40 : Int) ≤ n) = false := decide_eq_false hhi
     go_wp2_with fail
     refine (show Calls Tryz.prog 53 #[.pointer (some ⟨A.b, 0, none⟩), .int .i64 0, .int .u64 (key.toNat : Int)] _ (fun e w' => e = .returned (.tuple #[.int .u64 0, .bool false, .int .i64 0]) ∧ Below _ _ w') from get_of 0 key ⟨true, [], [], 0, maxU, 0⟩ (down_any HF.out H2.out 0 key (by omega) _ (fw_zero key).symm) (0, false, 0) (fw_get0 key).symm).mono ?_
     rintro e wp ⟨rfl, kz⟩
     have Hp := hid (H2.out.below kz)
     have HBp := hid (HB2.out.trans (kz.mono HB2.out.size))
     clear kz H2 HB2
     go_wp2_with fail
     refine (show Calls Tryz.prog 55 #[.pointer (some ⟨A.b, 0, none⟩), .int .i64 0, .int .u64 0, .int .u64 (key.toNat : Int), .int .i64 5] wp (fun e w' => ∃ v, e = .returned (.tuple #[v, .int .i64 0]) ∧ OwnJ w' wp.heap.size v [] ∧ Below wp.heap.size wp w') from walk_base HF.out Hp.out 0 (by omega) 0 key 5 [] (by rw [walkL_one (downR x 40 0) key 0 ⟨true, [], [], 0, maxU, 0⟩ (fw_zero 0) rfl (by have := key.toNat_lt; show key.toNat ≤ 18446744073709551615; omega), run_zero]; rfl) (.inl (by decide)) ([], 0) rfl).mono ?_
     rintro e wq ⟨v, rfl, ho, kz⟩
     obtain ⟨A', c', rfl, _, _⟩ := ho.slice
     have Hq := hid (Hp.out.below kz)
     have HBq := hid (HBp.out.trans (kz.mono HBp.out.size))
     clear kz ho Hp HBp
     go_wp2_with fail
     refine (show Calls Tryz.prog 56 #[.pointer (some ⟨A.b, 0, none⟩), .int .i64 0] _ (fun e w' => e = .returned (.tuple #[.int .i64 0, .int .i64 0]) ∧ Below _ _ w') from height_of 0 ⟨true, [], [], 0, maxU, 0⟩ (down_any HF.out Hq.out 0 0 (by omega) _ (fw_zero 0).symm)).mono ?_
     rintro e wr2 ⟨rfl, kz⟩
     have HBr2 := hid (HBq.out.trans (kz.mono HBq.out.size))
     clear kz Hq HBq
     have hl0 : (([] : List Itm).length : Int) = 0 := rfl
     go_wp2_with fail
     refine (awake13 _).mono ?_
     rintro e ws ⟨rfl, kz⟩
     go_wp2_with fail
     go_ret
     exact ⟨rfl, HBr2.out.trans (kz.mono HBr2.out.size)⟩
end Go.Proofs.YtogchamogbendaaGreat.Bs
