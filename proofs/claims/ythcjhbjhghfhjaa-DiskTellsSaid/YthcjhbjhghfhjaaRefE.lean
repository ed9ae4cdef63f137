/- The reference's disk: New. -/
import Derived.Test.YthcjhbjhghfhjaaRefC
import Derived.Laws.ResultCell
namespace Go.Proofs.Ythcjhbjhghfhjaa.Dsk
open Go.RowKit Go.Proofs.Ythcjhbjhghfhjaa.Oct
set_option linter.unusedVariables false

def rparts (n l : Int) : Value := .agg #[.int .i64 n, .slice none 0 0, .slice none 0 0, .int .i64 l, .bool false]
set_option maxRecDepth 100000 in
theorem rnew_ok (n : Int) (h0 : 16 ≤ n) (h1 : n ≤ 4096) (w : World) : Calls Try.prog 11 #[.int .i64 n] w fun e w' => e = .returned (.tuple #[rparts n (-1), .int .i64 0]) ∧ Below w.heap.size w w' := by
  have b1 := (Below.refl w.heap.size w).alloc (Nat.le_refl _) (.cells #[.int .i64 n, .slice none 0 0, .slice none 0 0, .int .i64 (-1), .bool false] 30)
  go_enter Try.func11, Try.ntmps11
  go_wp2
  refine bodyPost_ret (v := .tuple #[rparts n (-1), .int .i64 0]) ?_ rfl ⟨rfl, b1⟩
  rw [results_cell_tmp rfl]
  unfold rparts
  go_simp
set_option maxRecDepth 100000 in
theorem rnew_bad (n : Int) (hn : n < 16 ∨ 4096 < n) (w : World) : Calls Try.prog 11 #[.int .i64 n] w fun e w' => e = .returned (.tuple #[rparts 0 0, .int .i64 2]) ∧ Below w.heap.size w w' := by
  have b1 := (Below.refl w.heap.size w).alloc (Nat.le_refl _) (.cells #[.int .i64 0, .slice none 0 0, .slice none 0 0, .int .i64 0, .bool false] 30)
  by_cases h : n < 16
  · go_enter Try.func11, Try.ntmps11
    go_wp2
    refine bodyPost_ret (v := .tuple #[rparts 0 0, .int .i64 2]) ?_ rfl ⟨rfl, b1⟩
    rw [results_cell_tmp rfl]
    unfold rparts
    go_simp
  · have h2 : 4096 < n := by omega
    go_enter Try.func11, Try.ntmps11
    go_wp2
    refine bodyPost_ret (v := .tuple #[rparts 0 0, .int .i64 2]) ?_ rfl ⟨rfl, b1⟩
    rw [results_cell_tmp rfl]
    unfold rparts
    go_simp
end Go.Proofs.Ythcjhbjhghfhjaa.Dsk
