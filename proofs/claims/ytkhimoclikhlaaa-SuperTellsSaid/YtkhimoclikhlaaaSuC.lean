/- Contract: (*content).numbers, an iterator over a body's numbers: where each stands, and its cell. -/
import Derived.Test.YtkhimoclikhlaaaSuB
import Derived.RangeFuncNested
import Derived.RangeFuncBox
import Derived.RangeFuncLeaves
import Derived.RangeFuncCalls
import Derived.Shelf.Abstract
import Derived.Shelf.RegionOpen
import Derived.OwnWalkIn
import Derived.TacticsInMore
import Derived.LoopNIn
import Derived.LoopIn
namespace Go.Proofs.Ytkhimoclikhlaaa.Su
open Go.RowKit Go.Shelf Go.Proofs.Ytkhimoclikhlaaa.Oct Go.Proofs.Ytkhimoclikhlaaa.Sf
set_option linter.unusedVariables false
attribute [local go_sem] Oper.semAt_some

/-- What a round is handed: a place, and where its number's cell is. -/
def encs (c : Nat) (x : Fin 19) : Array Value := #[.agg #[.int .i64 (pos x.val : Int), .int .i64 (size x.val : Int)], .pointer (some ⟨c, x.val, none⟩)]
/-- What a round keeps: all below n₀, and block b. -/
def Keep (n₀ b : Nat) (A B : World) : Prop := Below n₀ A B ∧ B.heap[b]? = A.heap[b]?
theorem Keep.refl (n₀ c : Nat) (A : World) : Keep n₀ c A A := ⟨Below.refl _ _, rfl⟩
theorem keep_t {n₀ c : Nat} {A B C : World} (h : Keep n₀ c A B) (k : Keep n₀ c B C) : Keep n₀ c A C := ⟨h.1.trans k.1, k.2.trans h.2⟩
theorem keep_b {n₀ c : Nat} {w : World} (hn : n₀ ≤ w.heap.size) (hc : c < w.heap.size) (W : World) (l : Nat) (o o' : Obj) (hl : w.heap.size ≤ l) (h : W.heap[l]? = some o) (h1 : o.isCells = false) (h2 : o.isWalk = false) : Keep n₀ c W (W.putObj l o') :=
  ⟨belowK_b hn W l o o' hl h h1 h2, World.putObj_heap_other (by omega)⟩
/-- Those ahead of the i-th root. -/
def ahead (i : Nat) : List (Fin 19) := order.take (2 + 2 * i)
theorem ahead_order (i : Nat) : ahead i <+: order := List.take_prefix _ _
def rootAt (i : Nat) : Fin 19 := if h : i < 8 then ⟨2 + i, by omega⟩ else 0
def markAt (i : Nat) : Fin 19 := if h : i < 8 then ⟨10 + i, by omega⟩ else 0
theorem ahead_root (i : Nat) (h : i < 8) : ahead i ++ [rootAt i] ++ [markAt i] = ahead (i + 1) := by
  have : ∀ i : Fin 8, ahead i.val ++ [rootAt i.val] ++ [markAt i.val] = ahead (i.val + 1) := by decide
  exact this ⟨i, h⟩
theorem ahead_mid (i : Nat) (h : i < 8) : ahead i ++ [rootAt i] <+: order := by
  have e := ahead_root i h
  exact List.IsPrefix.trans (List.prefix_append _ [markAt i]) (e ▸ ahead_order (i + 1))
theorem ahead_all : ahead 8 ++ [18] = order := by decide
theorem ahead_length (i : Nat) (h : i ≤ 8) : (ahead i).length = 2 + 2 * i := by
  have : ∀ i : Fin 9, (ahead i.val).length = 2 + 2 * i.val := by decide
  exact this ⟨i, by omega⟩
theorem root_val (i : Nat) (h : i < 8) : (rootAt i).val = 2 + i := by simp [rootAt, h]
theorem mark_val (i : Nat) (h : i < 8) : (markAt i).val = 10 + i := by simp [markAt, h]
theorem encs_root (c i : Nat) (h : i < 8) : encs c (rootAt i) = #[.agg #[.int .i64 (12 + 4 * (i : Int)), .int .i64 4], .pointer (some ⟨c, 2 + i, none⟩)] := by
  have e1 : pos (2 + i) = 12 + 4 * i := by unfold pos; rw [if_neg (by omega), if_neg (by omega), if_pos (by omega)]; omega
  have e2 : size (2 + i) = 4 := by unfold size; rw [if_pos (by omega)]
  unfold encs
  rw [root_val i h, e1, e2]
  simp
theorem encs_mark (c i : Nat) (h : i < 8) : encs c (markAt i) = #[.agg #[.int .i64 (44 + 8 * (i : Int)), .int .i64 8], .pointer (some ⟨c, 10 + i, none⟩)] := by
  have e1 : pos (10 + i) = 44 + 8 * i := by unfold pos; rw [if_neg (by omega), if_neg (by omega), if_neg (by omega), if_pos (by omega)]; omega
  have e2 : size (10 + i) = 8 := by unfold size; rw [if_neg (by omega)]
  unfold encs
  rw [mark_val i h, e1, e2]
  simp

theorem encs_first (c : Nat) : encs c 0 = #[.agg #[.int .i64 0, .int .i64 8], .pointer (some ⟨c, 0, none⟩)] := rfl
theorem encs_blocks (c : Nat) : encs c 1 = #[.agg #[.int .i64 8, .int .i64 4], .pointer (some ⟨c, 1, none⟩)] := rfl
theorem encs_last (c : Nat) : encs c 18 = #[.agg #[.int .i64 115, .int .i64 8], .pointer (some ⟨c, 18, none⟩)] := rfl
theorem ahead_zero : ([] : List (Fin 19)) ++ [0] ++ [1] = ahead 0 := by decide
theorem first_prefix : ([] : List (Fin 19)) ++ [0] <+: order := by decide
theorem second_prefix : ([] : List (Fin 19)) ++ [0] ++ [1] <+: order := by decide

set_option maxRecDepth 100000 in
set_option maxHeartbeats 4000000 in
theorem numbers1 (n : Nat) (hn : 1 ≤ n) (l Bn n₀ c : Nat) (J Jx : List (Fin 19) → World → Prop)
    (hY : ∀ pre x W, J pre W → pre.length < 19 → YieldAt Fence.wide (n - 1) Try.prog l (encs c x) W fun e W' =>
      (e = .returned (.bool true) ∧ J (pre ++ [x]) W' ∧ Keep n₀ Bn W W') ∨ (e = .returned (.bool false) ∧ Jx (pre ++ [x]) W'))
    (W : World) (hBn : W.cell? ⟨Bn, 0, none⟩ = some (.pointer (some ⟨c, 0, none⟩))) (h0 : J [] W) (hdr : ∀ pre w, J pre w → J pre w.drew) (hdx : ∀ pre w, Jx pre w → Jx pre w.drew) :
    CallsIn Fence.wide n Try.prog 38 #[.func (.yield l) #[] #[], .pointer (some ⟨Bn, 0, none⟩)] W fun e W' => (∃ v, e = .returned v) ∧
      ((∃ ys, ys = order ∧ J ys W') ∨ (∃ pre, pre <+: order ∧ Jx pre W')) := by
  refine callsIn_of_wp Try.func38 rfl trivial ?_ rfl
  simp only [Try.ntmps38, List.size_toArray, List.length_cons, List.length_nil, Nat.reduceAdd, Nat.reduceSub, Array.replicate_succ, Array.replicate_zero, List.push_toArray, List.append_toArray, List.nil_append, List.cons_append]
  obtain ⟨fn, tmps, assign, body, hy, hR⟩ := hY [] 0 W h0 (by decide)
  rw [encs_first] at hy
  gi_wp2
  refine hR.mono ?_
  rintro e W1 (⟨rfl, hJ1, hk1⟩ | ⟨rfl, hJx1⟩)
  · clear hy hR
    obtain ⟨fn, tmps, assign, body, hy, hR⟩ := hY _ 1 W1 hJ1 (by decide)
    rw [encs_blocks] at hy
    have hB1 := (World.cell?_of_block (a := ⟨Bn, 0, none⟩) hk1.2).trans hBn
    gi_wp2
    refine hR.mono ?_
    rintro e W2 (⟨rfl, hJ2, hk2⟩ | ⟨rfl, hJx2⟩)
    · clear hy hR
      rw [ahead_zero] at hJ2
      have hk := keep_t hk1 hk2
      clear hJ1 hk1 hk2 hB1
      gi_wp2
      gi_loopw [20] (fun i wr => ∃ k : Nat, k ≤ 8 ∧ i = .int .i64 (k : Int) ∧ J (ahead k) wr ∧ Keep n₀ Bn W wr) (fun i _ => 8 - (intOf i).toNat)
      case atStart => exact ⟨0, by omega, rfl, hJ2, hk⟩
      case round =>
        obtain ⟨k, hk8, rfl, hJs, hnx⟩ := hrel
        clear hJ2 hk
        have hc := (World.cell?_of_block (a := ⟨Bn, 0, none⟩) hnx.2).trans hBn
        by_cases hlt : k < 8
        · obtain ⟨fn, tmps, assign, body, hy, hR⟩ := hY _ (rootAt k) wr hJs (by rw [ahead_length k hk8]; omega)
          rw [encs_root c k hlt] at hy
          gi_wp2
          refine hR.mono ?_
          rintro e W3 (⟨rfl, hJ3, hk3⟩ | ⟨rfl, hJx3⟩)
          · clear hy hR
            obtain ⟨fn, tmps, assign, body, hy, hR⟩ := hY _ (markAt k) W3 hJ3 (by rw [List.length_append, ahead_length k hk8]; simp; omega)
            rw [encs_mark c k hlt] at hy
            have hc3 := (World.cell?_of_block (a := ⟨Bn, 0, none⟩) hk3.2).trans hc
            gi_wp2
            refine hR.mono ?_
            rintro e W4 (⟨rfl, hJ4, hk4⟩ | ⟨rfl, hJx4⟩)
            · rw [ahead_root k hlt] at hJ4
              gi_wp2
              go_roundw
              case rel => exact ⟨k + 1, by omega, by go_num, hJ4, keep_t hnx (keep_t hk3 hk4)⟩
              case measure => simp [intOf]; omega
            · rw [ahead_root k hlt] at hJx4
              gi_wp2
              refine bodyPost_ret (results_none rfl _ _ _) rfl ?_
              exact ⟨⟨_, rfl⟩, .inr ⟨_, ahead_order _, hJx4⟩⟩
          · gi_wp2
            refine ⟨fun _ h => (by cases h), ?_⟩
            gi_wp2
            refine bodyPost_ret (results_none rfl _ _ _) rfl ?_
            exact ⟨⟨_, rfl⟩, .inr ⟨_, ahead_mid k hlt, hJx3⟩⟩
        · obtain rfl : k = 8 := by omega
          obtain ⟨fn, tmps, assign, body, hy, hR⟩ := hY _ 18 wr hJs (by decide)
          rw [encs_last c] at hy
          gi_wp2
          refine hR.mono ?_
          rintro e W3 (⟨rfl, hJ3, hk3⟩ | ⟨rfl, hJx3⟩)
          · rw [ahead_all] at hJ3
            gi_wp2
            go_end0
            exact ⟨⟨_, rfl⟩, .inl ⟨_, rfl, hJ3⟩⟩
          · rw [ahead_all] at hJx3
            gi_wp2
            go_end0
            exact ⟨⟨_, rfl⟩, .inr ⟨_, List.prefix_refl _, hJx3⟩⟩
    · gi_wp2
      refine bodyPost_ret (results_none rfl _ _ _) rfl ?_
      exact ⟨⟨_, rfl⟩, .inr ⟨_, second_prefix, hJx2⟩⟩
  · gi_wp2
    refine ⟨fun _ h => (by cases h), ?_⟩
    gi_wp2
    refine bodyPost_ret (results_none rfl _ _ _) rfl ?_
    exact ⟨⟨_, rfl⟩, .inr ⟨_, first_prefix, hJx1⟩⟩

/-- numbers hands back an iterator of the numbers of a content. -/
theorem numbers_any (n : Nat) (c : Nat) (w : World) :
    CallsIn Fence.wide n Try.prog 26 #[.pointer (some ⟨c, 0, none⟩)] w fun e w' => e = .returned (.func (.func 38) #[] #[.pointer (some ⟨w.heap.size, 0, none⟩)]) ∧ w' = w.alloc (.cells #[.pointer (some ⟨c, 0, none⟩)] 75) := by
  refine callsIn_of_wp Try.func26 rfl trivial ?_ rfl
  simp only [Try.ntmps26, List.size_toArray, List.length_cons, List.length_nil, Nat.reduceAdd, Nat.reduceSub, Array.replicate_succ, Array.replicate_zero, List.push_toArray, List.append_toArray, List.nil_append, List.cons_append]
  gi_wp2
  go_ret
  exact ⟨rfl, rfl⟩
theorem drew_grown (w : World) : w.grownBy w.drew none := ⟨rfl, rfl, rfl, Nat.le_refl _, fun _ _ _ => rfl⟩
theorem abides_drew {β : Type} {B : Nat} {J : β → World → Prop} (h : AbidesFrom B J) (s : β) (w : World) (hs : J s w) : J s w.drew := h s w _ none hs (drew_grown w) (fun r e => by cases e)
theorem numbers_stops (n : Nat) (hn : 1 ≤ n) (Bn n₀ c : Nat) (w : World) (hB : Bn < w.heap.size) (hn₀ : n₀ ≤ w.heap.size)
    (hBn : w.cell? ⟨Bn, 0, none⟩ = some (.pointer (some ⟨c, 0, none⟩))) :
    SeqStopsK Fence.wide n Try.prog 38 #[.pointer (some ⟨Bn, 0, none⟩)] (encs c) (Keep n₀ Bn) (fun ys => ys = order) (fun pre => pre <+: order) 19 w := fun l J Jx W hW hJ hJx hY h0 =>
  numbers1 n hn l Bn n₀ c J Jx hY W ((hW.cell (p := ⟨Bn, 0, none⟩) hB).trans hBn) h0 (fun s w' hs => abides_drew hJ s w' hs) (fun s w' hs => abides_drew hJx s w' hs)
end Go.Proofs.Ytkhimoclikhlaaa.Su
