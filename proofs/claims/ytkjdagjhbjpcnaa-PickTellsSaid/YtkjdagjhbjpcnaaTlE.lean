/- How many blocks are free, wait; the counts are kept. -/
import Derived.Test.YtkjdagjhbjpcnaaTlD
namespace Go.Proofs.Ytkjdagjhbjpcnaa.Tl
open Go.RowKit Go.Proofs.Ytkjdagjhbjpcnaa.Oct Go.Proofs.Ytkjdagjhbjpcnaa.Mv Go.Maps Go.ChangeMaps
set_option linter.unusedVariables false

/-! ### Frees, Waits -/
theorem countP_succ (p : Nat → Bool) (k : Nat) : (List.range (k + 1)).countP p = (List.range k).countP p + (if p k then 1 else 0) := by
  rw [List.range_succ, List.countP_append]
  simp [List.countP_cons]
theorem countP_le (p : Nat → Bool) (k : Nat) : (List.range k).countP p ≤ k := by
  have := List.countP_le_length (p := p) (l := List.range k)
  rwa [List.length_range] at this
set_option maxRecDepth 100000 in
theorem iswait_at {w : World} {a cb mb c q : Nat} {s : St} (h : At w a cb mb c s) (hq : w.cell? ⟨q, 0, none⟩ = some (.pointer (some ⟨a, 0, none⟩))) (i : Nat) (hi : i < s.n) :
    Calls Try.prog 45 #[.int .i64 (i : Int), .pointer (some ⟨q, 0, none⟩)] w fun e w' => e = .returned (.bool (s.waits i)) ∧ w = w' := by
  have c0 := h.c0
  have cc := h.count hi
  have H := Lib.hid h
  have hlt : (i : Int) < (s.n : Int) := by omega
  have hge : (0 : Int) ≤ (i : Int) := by omega
  clear h
  cases h0 : (s.cnt i == 0)
  · have hz := cnt_some h0
    have hz' : ¬ (((s.cnt i).toNat : Int) = 0) := by omega
    have hf : s.waits i = false := by unfold St.waits; rw [h0]; rfl
    rw [hf]
    clear hf h0 hz
    go_enter Try.func45, Try.ntmps45
    go_wp2_with fail
    go_ret
    exact ⟨rfl, rfl⟩
  · have hz := cnt_zero h0
    rw [hz] at cc
    rw [waits_moved h0]
    clear h0 hz
    go_enter Try.func45, Try.ntmps45
    go_wp2_with fail
    refine (changed_at H.out i hi).mono ?_
    rintro e w' ⟨rfl, rfl⟩
    go_wp2_with fail
    go_ret
    exact ⟨rfl, rfl⟩
set_option maxRecDepth 100000 in
theorem many_wait {w : World} {a cb mb c q : Nat} {s : St} (h : At w a cb mb c s) (hq : w.cell? ⟨q, 0, none⟩ = some (.pointer (some ⟨a, 0, none⟩))) :
    Calls Try.prog 44 #[.pointer (some ⟨a, 0, none⟩), .func (.func 45) #[] #[.pointer (some ⟨q, 0, none⟩)]] w fun e w' => e = .returned (.int .i64 (s.idle : Int)) ∧ w = w' := by
  have H := Lib.hid h
  have HQ := Lib.hid hq
  have hn : s.n ≤ 4096 := h.ok.hi
  clear h hq
  go_enter Try.func44, Try.ntmps44
  go_wp2_with fail
  refine (blocks_at H.out).mono ?_
  rintro e w' ⟨rfl, rfl⟩
  go_wp2_with fail
  go_loopw [9, 5] (fun i m wr => ∃ k : Nat, k ≤ s.n ∧ i = .int .i64 (k : Int) ∧ m = .int .i64 ((List.range k).countP s.waits : Int) ∧ wr = w) (fun i _ _ => s.n - (Go.RowKit.intOf i).toNat)
  case atStart => exact ⟨0, Nat.zero_le _, rfl, rfl, rfl⟩
  case round =>
    obtain ⟨k, hk, rfl, rfl, rfl⟩ := hrel
    by_cases hlt : k < s.n
    · have hki : (k : Int) < (s.n : Int) := by omega
      have hle := countP_le s.waits k
      have HS := Lib.hid (countP_succ s.waits k)
      cases hf : s.waits k
      all_goals
        rw [hf] at HS
        go_wp2_with fail
        refine (iswait_at H.out HQ.out k hlt).mono ?_
        rintro e w' ⟨rfl, rfl⟩
        rw [hf]
        go_wp2_with fail
        go_roundw
        case rel => exact ⟨k + 1, by omega, by go_num, by rw [HS.out]; first | rfl | (congr 1), by first | rfl | trivial⟩
        case measure => simp [Go.RowKit.intOf]; omega
    · obtain rfl : k = s.n := by omega
      go_wp2_with fail
      go_ret
      exact ⟨rfl, rfl⟩
set_option maxRecDepth 100000 in
theorem idle_at {w : World} {a cb mb c : Nat} {s : St} (h : At w a cb mb c s) :
    Calls Try.prog 33 #[.pointer (some ⟨a, 0, none⟩)] w fun e w' => e = .returned (.int .i64 (s.idle : Int)) ∧ Below w.heap.size w w' := by
  have B1 := (Below.refl w.heap.size w).alloc (Nat.le_refl _) (.cells #[.pointer (some ⟨a, 0, none⟩)] 23)
  have H := Lib.hid (h.kept B1)
  have HB := Lib.hid B1
  have hq : (w.alloc (.cells #[.pointer (some ⟨a, 0, none⟩)] 23)).cell? ⟨w.heap.size, 0, none⟩ = some (.pointer (some ⟨a, 0, none⟩)) := (alloc_rowV w 23 [.pointer (some ⟨a, 0, none⟩)]).cellAt rfl
  have HQ := Lib.hid hq
  clear h B1 hq
  go_enter Try.func33, Try.ntmps33
  go_wp2_with fail
  refine (many_wait H.out HQ.out).mono ?_
  rintro e w' ⟨rfl, rfl⟩
  go_wp2_with fail
  go_ret
  exact ⟨rfl, HB.out⟩
set_option maxRecDepth 100000 in
theorem many_nay (v f : Value) (w : World) (h : Nay w v) :
    Calls Try.prog 44 #[v, f] w fun e w' => e = .returned (.int .i64 0) ∧ w = w' := by
  go_enter Try.func44, Try.ntmps44
  go_wp2_with fail
  refine (blocks_nay v _ h).mono ?_
  rintro e w' ⟨rfl, rfl⟩
  go_wp2_with fail
  refine wp_loop_rounds 1 ?_
  rw [rounds_succ]
  go_wp2_with fail
  go_ret
  exact ⟨rfl, rfl⟩
set_option maxRecDepth 100000 in
theorem idle_nay (v : Value) (w : World) (h : Nay w v) :
    Calls Try.prog 33 #[v] w fun e w' => e = .returned (.int .i64 0) ∧ Below w.heap.size w w' := by
  have HB := Lib.hid ((Below.refl w.heap.size w).alloc (Nat.le_refl _) (.cells #[v] 23))
  have HN := Lib.hid (h.below HB.out)
  have hsh : ∃ p, v = .pointer p := by
    rcases h with h | ⟨a, h, _⟩
    · exact ⟨_, h⟩
    · exact ⟨_, h⟩
  obtain ⟨p, rfl⟩ := hsh
  clear h
  go_enter Try.func33, Try.ntmps33
  go_wp2_with fail
  refine (many_nay _ _ _ HN.out).mono ?_
  rintro e w' ⟨rfl, rfl⟩
  go_wp2_with fail
  go_ret
  exact ⟨rfl, HB.out⟩
end Go.Proofs.Ytkjdagjhbjpcnaa.Tl

