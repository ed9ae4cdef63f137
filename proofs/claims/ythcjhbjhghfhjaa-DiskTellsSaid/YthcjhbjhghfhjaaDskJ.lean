/- New, and what it is made of. -/
import Derived.Test.YthcjhbjhghfhjaaDskI
import Derived.Deep.RegionHeld3
namespace Go.Proofs.Ythcjhbjhghfhjaa.Dsk
open Go.RowKit Go.Proofs.Ythcjhbjhghfhjaa.Oct
set_option linter.unusedVariables false

def BuildPost (w : World) (bv wv : Value) (g m : Bool) (l : Int) (e : Ending) (w' : World) : Prop :=
  ∃ a, e = .returned (.pointer (some ⟨a, 0, none⟩)) ∧ w.heap.size ≤ a ∧ w'.heap[a]? = some (.cells #[bv, wv, .bool g, .bool m, .int .i64 l, .pointer (some ⟨a, 0, none⟩)] 79 (0, 0)) ∧ Below w.heap.size w w'
theorem build_any (A C : Option Addr) (n c k d : Nat) (g m : Bool) (l : Int) (w : World) :
    Calls Try.prog 30 #[.agg #[.slice A n c], .agg #[.slice C k d], .agg #[.bool g, .bool m, .int .i64 l]] w (BuildPost w (.slice A n c) (.slice C k d) g m l) := by
  go_enter Try.func30, Try.ntmps30
  go_wp2
  go_ret
  refine ⟨w.heap.size + 3, rfl, by omega, ?_, ?_⟩
  · have h1 : (((w.alloc (.cells #[.slice A n c] 72)).alloc (.cells #[.slice C k d] 75)).alloc (.cells #[.bool g, .bool m, .int .i64 l] 77)).heap.size = w.heap.size + 3 := by simp
    have := heap_alloc_new (((w.alloc (.cells #[.slice A n c] 72)).alloc (.cells #[.slice C k d] 75)).alloc (.cells #[.bool g, .bool m, .int .i64 l] 77)) (.cells #[.slice A n c, .slice C k d, .bool g, .bool m, .int .i64 l, .pointer (some ⟨w.heap.size + 3, 0, none⟩)] 79)
    rw [h1] at this
    exact this
  · exact (((((Below.refl _ _).alloc (Nat.le_refl _) _).alloc (by simp) _).alloc (by simp; omega) _).alloc (by simp; omega) _)

def fresh (n : Nat) : St := { n := n, B := List.replicate (n * 128) 0, W := [], gone := false, armed := false, left := 0 }
theorem vals_zeros' (m n : Nat) (hm : 0 < m) : madeCells (Value.agg (vals (List.replicate m 0)).toArray).cells n = (vals (List.replicate n 0)).toArray := by
  apply Array.ext
  · simp [madeCells, vals]
  · intro i h1 h2
    have h3 : i % m < m := Nat.mod_lt _ hm
    simp [madeCells, vals, Value.cells, h3]
theorem vals_zeros (n : Nat) : madeCells (Value.agg (vals (List.replicate 128 0)).toArray).cells n = (vals (List.replicate n 0)).toArray := vals_zeros' 128 n (by decide)
theorem block_row : (Try.prog.info? 89).map (fun i => (i.zero, i.size, i.bytes)) = some (some (.agg (vals (List.replicate 128 0)).toArray), 128, 128) := by kernel_rfl
theorem run_make_blocks (w : World) (n : Nat) (hn : n ≤ 4096) :
    (Instr.makeSlice 70 (.int .i64 (n : Int)) (.int .i64 (n : Int))).run Try.prog w = .ok (.slice (some ⟨w.heap.size, 0, none⟩) n n) (w.alloc (.cells (vals (List.replicate (n * 128) 0)).toArray 89)) := by
  obtain ⟨i0, hi, hz0, hz1, hz2⟩ := info_parts block_row
  have h := run_make (P := Try.prog) w 70 89 i0 _ Try.underlying70 hi hz0 .i64 .i64 n n (by omega) (by omega) (by rw [hz2]; omega) (by omega)
  rw [hz1, Int.toNat_natCast, vals_zeros] at h
  exact h
def NewPost (w : World) (n : Nat) (e : Ending) (w' : World) : Prop :=
  ∃ a bb, e = .returned (.tuple #[.pointer (some ⟨a, 0, none⟩), .int .i64 0]) ∧ At w' w.heap.size a bb n (.slice none 0 0) (fresh n) ∧ Below w.heap.size w w'
set_option maxRecDepth 100000 in
theorem new_ok (n : Nat) (h0 : 16 ≤ n) (h1 : n ≤ 4096) (w : World) : Calls Try.prog 10 #[.int .i64 (n : Int)] w (NewPost w n) := by
  have hmk := run_make_blocks w n h1
  have R1 := heap_alloc_new w (.cells (vals (List.replicate (n * 128) 0)).toArray 89)
  have B1 := (Below.refl w.heap.size w).alloc (Nat.le_refl _) (.cells (vals (List.replicate (n * 128) 0)).toArray 89)
  have S1 : (w.alloc (.cells (vals (List.replicate (n * 128) 0)).toArray 89)).heap.size = w.heap.size + 1 := by simp
  generalize w.alloc (.cells (vals (List.replicate (n * 128) 0)).toArray 89) = w1 at *
  have HR := Lib.hid R1
  have HB := Lib.hid B1
  have HS := Lib.hid S1
  obtain ⟨q, hq⟩ : ∃ q, q = w.heap.size := ⟨_, rfl⟩
  rw [← hq] at hmk
  have HQ := Lib.hid hq
  clear R1 B1 S1 hq
  go_enter Try.func10, Try.ntmps10
  go_wp2_with fail
  refine (build_any _ _ _ _ _ _ _ _ _ _).mono ?_
  rintro e w2 ⟨a, rfl, ha, hh, hb⟩
  have hs := HS.out
  have hq := HQ.out
  have A2 : At w2 w.heap.size a q n (.slice none 0 0) (fresh n) := by
    refine ⟨by omega, hh, ⟨by simp [length_vals, fresh], .inr ⟨q, n, (vals (List.replicate (n * 128) 0)).toArray, rfl, by omega, ?_, Nat.le_refl _, by unfold maxLen; omega, by simp [length_vals], ?_⟩⟩, World.ownsRow_nil _ _ _ _, ⟨h0, h1, by simp [fresh], fun x hx => by simp [fresh] at hx, Nat.zero_le _, Nat.zero_le _⟩⟩
    · rw [hb.block q (by omega), hq]
      exact HR.out
    · show (vals (List.replicate (n * 128) 0)).take (n * 128) = vals (List.replicate (n * 128) 0)
      rw [List.take_of_length_le (by simp [length_vals])]
  have HA2 := Lib.hid A2
  have HB2 := Lib.hid (HB.out.trans (hb.mono HB.out.size))
  clear A2 hb hh hs hq hmk
  go_wp2_with fail
  go_ret2
  exact ⟨a, q, rfl, HA2.out, HB2.out⟩
theorem new_bad (n : Int) (h : ¬ (16 ≤ n ∧ n ≤ 4096)) (w : World) : Calls Try.prog 10 #[.int .i64 n] w fun e w' => e = .returned (.tuple #[.pointer none, .int .i64 2]) ∧ w = w' := by
  have h2 : n < 16 ∨ (16 ≤ n ∧ 4096 < n) := by omega
  clear h
  rcases h2 with h | ⟨h, h'⟩
  all_goals
    go_enter Try.func10, Try.ntmps10
    go_wp2_with fail
    go_ret2
    exact ⟨rfl, rfl⟩

/-! ### Copy -/
def ClonePost (w : World) (E : TypeId) (size n : Nat) (xs : List Value) (e : Ending) (w' : World) : Prop :=
  ∃ A c, e = .returned (.slice A n c) ∧ w'.ownsRow w.heap.size E size (.slice A n c) n xs ∧ Below w.heap.size w w'
theorem own_slice {w : World} {base : Nat} {e : TypeId} {size n : Nat} {v : Value} {xs : List Value} (h : w.ownsRow base e size v n xs) : ∃ A c, v = .slice A n c ∧ n ≤ c ∧ c ≤ maxLen := by
  rcases h.2 with ⟨rfl, rfl⟩ | ⟨g, c, cur, rfl, _, _, h1, h2, _⟩
  · exact ⟨none, 0, rfl, Nat.le_refl _, Nat.zero_le _⟩
  · exact ⟨_, c, rfl, h1, h2⟩
set_option maxRecDepth 100000 in
theorem clone_blocks {w : World} {base bb bc n : Nat} {xs : List Value} (h : w.ownsRow base 89 128 (.slice (some ⟨bb, 0, none⟩) n bc) n xs) (hn : n ≤ 4096) (h1 : ∀ u ∈ xs, u.oneCell' = true) :
    Calls Try.prog 42 #[.slice (some ⟨bb, 0, none⟩) n bc] w (ClonePost w 89 128 n xs) := by
  obtain ⟨i0, hi, hz0, hz1, hz2⟩ := info_parts block_row
  have hb1 : Below w.heap.size w (w.alloc (.cells #[] 89)) := (Below.refl _ _).alloc (Nat.le_refl _) _
  have hlt := (World.ownsRow.lt h bb rfl).2
  have hown : (w.alloc (.cells #[] 89)).ownsRow w.heap.size 89 128 (.slice (some ⟨w.heap.size, 0, none⟩) 0 0) 0 [] := World.ownsRow_made w #[] 0 (Nat.le_refl _) (Nat.zero_le _) rfl
  have hold := World.ownsRow.alloc h (.cells #[] 89)
  obtain ⟨v', w2, hrun, ho, hg, _⟩ := run_append_own (P := Try.prog) (w.alloc (.cells #[] 89)) w.heap.size 70 70 89 i0 _ 128 128 Try.underlying70 hi hz0 hz1 hz2 (by simp [Value.cells, length_vals]) (by decide) (.slice (some ⟨w.heap.size, 0, none⟩) 0 0) 0 [] hown ⟨bb, 0, none⟩ n bc xs h.1 (hold.cells (g := bb) rfl) h1
    (by unfold maxLen; omega) (by omega) (by simp)
  rw [Nat.zero_add, List.nil_append] at ho
  obtain ⟨A, c, rfl, _, _⟩ := own_slice ho
  have hb2 : Below w.heap.size w w2 := hb1.grown hg (by simp) (fun k hk => by cases hk; exact Nat.le_refl _)
  have HO := Lib.hid ho
  have HB := Lib.hid hb2
  clear h h1 hb1 hlt hown hold hi hz0 hz1 hz2 ho hg hb2
  have ke := Lib.run_eql_slice_nil (P := Try.prog) w 70 89 (some ⟨bb, 0, none⟩) n bc 0 0 Try.underlying70
  go_enter Try.func42, Try.ntmps42
  go_wp2_with (at_builtin; refine wpList_append_run rfl (.tmp 5) (.tmp 6) 70 rfl _ _ rfl rfl _ w2 hrun ?_)
  go_ret
  exact ⟨A, c, rfl, HO.out, HB.out⟩
set_option maxRecDepth 100000 in
theorem clone_writes {w : World} {base n c0 : Nat} {B : Option Addr} {xs : List Value} (h : w.ownsRow base 91 129 (.slice B n c0) n xs) (hn : n ≤ 1000000) (h1 : ∀ u ∈ xs, u.oneCell' = true) :
    Calls Try.prog 43 #[.slice B n c0] w (ClonePost w 91 129 n xs) := by
  cases B with
  | none =>
    have h0 : n = 0 := by
      rcases h.2 with ⟨_, h0⟩ | ⟨g, c, cur, hv, _⟩
      · exact h0
      · cases hv
    subst h0
    have hx : xs = [] := List.eq_nil_of_length_eq_zero (by have := h.1; omega)
    subst hx
    clear h h1
    have ke := Lib.run_eql_slice_nil (P := Try.prog) w 73 91 none 0 c0 0 0 Try.underlying73
    go_enter Try.func43, Try.ntmps43
    go_wp2
    go_ret
    exact ⟨none, 0, rfl, World.ownsRow_nil _ _ _ _, Below.refl _ _⟩
  | some x =>
    obtain ⟨bb, rfl⟩ : ∃ bb, x = ⟨bb, 0, none⟩ := by
      rcases h.2 with ⟨h0, _⟩ | ⟨g, c, cur, hv, _⟩
      · cases h0
      · cases hv
        exact ⟨g, rfl⟩
    obtain ⟨i0, hi, hz0, hz1, hz2⟩ := info_parts write_row
    have hb1 : Below w.heap.size w (w.alloc (.cells #[] 91)) := (Below.refl _ _).alloc (Nat.le_refl _) _
    have hown : (w.alloc (.cells #[] 91)).ownsRow w.heap.size 91 129 (.slice (some ⟨w.heap.size, 0, none⟩) 0 0) 0 [] := World.ownsRow_made w #[] 0 (Nat.le_refl _) (Nat.zero_le _) rfl
    have hold := World.ownsRow.alloc h (.cells #[] 91)
    obtain ⟨v', w2, hrun, ho, hg, _⟩ := run_append_own (P := Try.prog) (w.alloc (.cells #[] 91)) w.heap.size 73 73 91 i0 _ 129 136 Try.underlying73 hi hz0 hz1 hz2 zc_size (by decide) (.slice (some ⟨w.heap.size, 0, none⟩) 0 0) 0 [] hown ⟨bb, 0, none⟩ n c0 xs h.1 (hold.cells (g := bb) rfl) h1
      (by unfold maxLen; omega) (by omega) (by simp)
    rw [Nat.zero_add, List.nil_append] at ho
    obtain ⟨A, c, rfl, _, _⟩ := own_slice ho
    have hb2 : Below w.heap.size w w2 := hb1.grown hg (by simp) (fun k hk => by cases hk; exact Nat.le_refl _)
    have HO := Lib.hid ho
    have HB := Lib.hid hb2
    clear h h1 hb1 hown hold hi hz0 hz1 hz2 ho hg hb2
    have ke := Lib.run_eql_slice_nil (P := Try.prog) w 73 91 (some ⟨bb, 0, none⟩) n c0 0 0 Try.underlying73
    go_enter Try.func43, Try.ntmps43
    go_wp2_with (at_builtin; refine wpList_append_run rfl (.tmp 5) (.tmp 6) 73 rfl _ _ rfl rfl _ w2 hrun ?_)
    go_ret
    exact ⟨A, c, rfl, HO.out, HB.out⟩
end Go.Proofs.Ythcjhbjhghfhjaa.Dsk
