/- A tally is made: may, build, New. -/
import Derived.Test.YtlemjegngnfanaaTlF
namespace Go.Proofs.Ytlemjegngnfanaa.Tl
open Go.RowKit Go.Proofs.Ytlemjegngnfanaa.Oct Go.Proofs.Ytlemjegngnfanaa.Mv Go.Maps Go.ChangeMaps
set_option linter.unusedVariables false

set_option maxRecDepth 100000 in
theorem may_yes (n : Int) (h1 : 1 ≤ n) (h2 : n ≤ 4096) (w : World) :
    Calls Try.prog 35 #[.int .i64 n] w fun e w' => e = .returned (.bool true) ∧ w = w' := by
  go_enter Try.func35, Try.ntmps35
  go_wp2_with fail
  go_ret
  exact ⟨rfl, rfl⟩
set_option maxRecDepth 100000 in
theorem may_no (n : Int) (h : n < 1 ∨ 4096 < n) (w : World) :
    Calls Try.prog 35 #[.int .i64 n] w fun e w' => e = .returned (.bool false) ∧ w = w' := by
  by_cases h1 : 1 ≤ n
  · have h2 : ¬ (n ≤ 4096) := by omega
    clear h
    go_enter Try.func35, Try.ntmps35
    go_wp2_with fail
    go_ret
    exact ⟨by first | rfl | (show Ending.returned (.bool (decide _)) = _; rw [decide_eq_false (by omega)]), rfl⟩
  · clear h
    go_enter Try.func35, Try.ntmps35
    go_wp2_with fail
    go_ret
    exact ⟨rfl, rfl⟩
theorem Ok.new' (n : Nat) (h1 : 1 ≤ n) (h2 : n ≤ 4096) : (St.of (List.replicate n 0)).Ok := .new h1 h2
/-- A tally of counts that lie in block cb, made anew: its struct and its map are new blocks. -/
structure Made (w w' : World) (cb c : Nat) (s : St) (a mb : Nat) : Prop where
  at' : At w' a cb mb c s
  below : Below w.heap.size w w'
  ha : w.heap.size ≤ a
  hm : w.heap.size ≤ mb
set_option maxRecDepth 100000 in
theorem build_any {w : World} {cb c : Nat} {l : List UInt16} {sp : List Value} (h : RowV w cb 22 (nums l ++ sp)) (hok : (St.of l).Ok) (hc : l.length ≤ c) :
    Calls Try.prog 36 #[.slice (some ⟨cb, 0, none⟩) l.length c] w fun e w' => ∃ a mb, e = .returned (.pointer (some ⟨a, 0, none⟩)) ∧ Made w w' cb c (St.of l) a mb := by
  have hmm := @run_makeMap Try.prog
  have HN := Lib.hid h
  have HOK := Lib.hid hok
  clear h
  go_enter Try.func36, Try.ntmps36
  go_wp2_with fail
  go_ret
  have B1 := (Below.refl w.heap.size w).alloc (Nat.le_refl _) (.map #[] 0)
  have e1 : (w.alloc (.map #[] 0)).heap.size = w.heap.size + 1 := by simp
  have B2 := (Below.refl _ (w.alloc (.map #[] 0))).alloc (Nat.le_refl _) (.cells (tcells (w.heap.size + 1) cb w.heap.size l.length c).toArray 80)
  have R2 := alloc_rowV (w.alloc (.map #[] 0)) 80 (tcells (w.heap.size + 1) cb w.heap.size l.length c)
  rw [e1] at B2 R2
  have hlt := HN.out.lt
  refine ⟨_, w.heap.size, rfl, ⟨R2, ⟨sp, (HN.out.below hlt B1).below (by omega) B2⟩, ?_, HOK.out, hc, by omega⟩, B1.trans (B2.mono (by omega)), by omega, Nat.le_refl _⟩
  exact ⟨0, _, (World.ownsMap_made w Try.prog 3 (plainElem Try.prog 22)).alloc _, says_none _⟩

theorem word_info : (Try.prog.info? 22).map (fun i => (i.zero, i.size, i.bytes)) = some (some (.int .u16 0), 1, 2) := by kernel_rfl
theorem made_zeros (n : Nat) : madeCells (Value.int .u16 0).cells n = (nums (List.replicate n 0)).toArray := by
  apply Array.ext
  · simp [madeCells, nums]
  · intro i h1 h2
    simp [madeCells, nums, num, Value.cells, Nat.mod_one]
theorem run_make_words (w : World) (n : Nat) (hn : n ≤ 4096) :
    (Instr.makeSlice 74 (.int .i64 (n : Int)) (.int .i64 (n : Int))).run Try.prog w = .ok (.slice (some ⟨w.heap.size, 0, none⟩) n n) (w.alloc (.cells (nums (List.replicate n 0)).toArray 22)) := by
  obtain ⟨i0, hi, hz0, hz1, hz2⟩ := info_parts word_info
  have h := run_make (P := Try.prog) w 74 22 i0 (.int .u16 0) Try.underlying74 hi hz0 .i64 .i64 n n (by omega) (by omega) (by rw [hz2]; omega) (by omega)
  rw [hz1, Nat.mul_one, Int.toNat_natCast, made_zeros] at h
  exact h
/-- A tally made by New or Of: all its blocks are new. -/
structure Fresh (w w' : World) (a cb mb c : Nat) (s : St) : Prop where
  at' : At w' a cb mb c s
  below : Below w.heap.size w w'
  ha : w.heap.size ≤ a
  hc : w.heap.size ≤ cb
  hm : w.heap.size ≤ mb
set_option maxRecDepth 100000 in
theorem new_yes (n : Nat) (h1 : 1 ≤ n) (h2 : n ≤ 4096) (w : World) :
    Calls Try.prog 8 #[.int .i64 (n : Int)] w fun e w' => ∃ a cb mb, e = .returned (.tuple #[.pointer (some ⟨a, 0, none⟩), .int .i64 0]) ∧ Fresh w w' a cb mb n (St.new n) := by
  have hmk := run_make_words w n h2
  have R1 := alloc_rowV w 22 (nums (List.replicate n 0))
  have HB1 := Lib.hid ((Below.refl w.heap.size w).alloc (Nat.le_refl _) (.cells (nums (List.replicate n 0)).toArray 22))
  have HR1 := Lib.hid (show RowV (w.alloc (.cells (nums (List.replicate n 0)).toArray 22)) w.heap.size 22 (nums (List.replicate n 0) ++ []) by rw [List.append_nil]; exact R1)
  have HW := Lib.hid (show w.heap.size ≤ (w.alloc (.cells (nums (List.replicate n 0)).toArray 22)).heap.size by simp)
  clear R1
  generalize w.alloc (.cells (nums (List.replicate n 0)).toArray 22) = w1 at *
  go_enter Try.func8, Try.ntmps8
  go_wp2_with fail
  refine (may_yes n (by omega) (by omega) w).mono ?_
  rintro e w' ⟨rfl, rfl⟩
  go_wp2_with fail
  have hlen : (List.replicate n (0 : UInt16)).length = n := List.length_replicate
  have hb := build_any HR1.out (c := n) (Ok.new' n h1 h2) (by rw [hlen]; exact Nat.le_refl _)
  rw [hlen] at hb
  refine hb.mono ?_
  rintro e w' ⟨a, mb, rfl, hM⟩
  have HM := Lib.hid hM
  clear hM hmk hb
  go_wp2_with fail
  go_ret2
  exact ⟨a, w.heap.size, mb, rfl, HM.out.at', HB1.out.trans (HM.out.below.mono HW.out), Nat.le_trans HW.out HM.out.ha, Nat.le_refl _, Nat.le_trans HW.out HM.out.hm⟩
set_option maxRecDepth 100000 in
theorem new_no (n : Int) (h : n < 1 ∨ 4096 < n) (w : World) :
    Calls Try.prog 8 #[.int .i64 n] w fun e w' => e = .returned (.tuple #[.pointer none, .int .i64 2]) ∧ w = w' := by
  go_enter Try.func8, Try.ntmps8
  go_wp2_with fail
  refine (may_no n h w).mono ?_
  rintro e w' ⟨rfl, rfl⟩
  go_wp2_with fail
  go_ret2
  exact ⟨rfl, rfl⟩
end Go.Proofs.Ytlemjegngnfanaa.Tl

