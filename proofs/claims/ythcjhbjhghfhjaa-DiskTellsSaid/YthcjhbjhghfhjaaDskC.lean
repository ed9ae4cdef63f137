/- What says and Read answer. -/
import Derived.Test.YthcjhbjhghfhjaaDskM
namespace Go.Proofs.Ythcjhbjhghfhjaa.Dsk
open Go.RowKit Go.Proofs.Ythcjhbjhghfhjaa.Oct
set_option linter.unusedVariables false

def SaysPost (w : World) (bs : List UInt8) (e : Ending) (w' : World) : Prop := ∃ g o, e = .returned (.pointer (some ⟨g, o, none⟩)) ∧ g < w.heap.size ∧ Has w g o bs ∧ w = w'
theorem says_at {w : World} {base a bb bc : Nat} {wv : Value} {s : St} (h : At w base a bb bc wv s) (p : Nat) (hp : p < s.n) :
    Calls Try.prog 41 #[.pointer (some ⟨a, 0, none⟩), .int .i64 (p : Int)] w (SaysPost w (s.says p)) := by
  obtain ⟨A, cap, hv, hwc, hm, hA⟩ := h.wform
  have c0 := h.c0
  have c1 := h.c1
  rw [hv] at c1
  have hfew := h.ok.few
  have hbc := h.cap
  obtain ⟨hbc1, hbc2⟩ := hbc
  unfold maxLen at hbc2 hm
  have H := Lib.hid h
  have HV := Lib.hid hv
  have HA := Lib.hid hA
  clear h hv hA
  go_enter Try.func41, Try.ntmps41
  go_wp2
  go_loop [5] (fun i => ∃ (z : Int) (k : Nat), k ≤ s.W.length ∧ i = .int .i64 z ∧ z ≤ k - 1 ∧ k - 1 ≤ z ∧ Hid (last? (s.W.take k) p = last? s.W p)) (fun i => (intOf i + 1).toNat)
  case atStart => exact ⟨_, s.W.length, Nat.le_refl _, rfl, by omega, by omega, Lib.hid (by rw [List.take_length])⟩
  case round =>
    obtain ⟨z, k, hk, rfl, h1, h2, hl⟩ := hrel
    by_cases hz : 0 ≤ z
    · obtain ⟨m, rfl⟩ := Int.eq_ofNat_of_zero_le hz
      obtain rfl : k = m + 1 := by omega
      obtain ⟨g, hg, hg2⟩ := HA.out (by omega)
      obtain ⟨W1, W2⟩ := H.out.wat (by rw [HV.out, hg]) m (by omega)
      subst hg
      have HGL := (World.ownsRow.lt H.out.waits g hg2).2
      have HW2 := Lib.hid W2
      have hml : (m : Int) < (s.W.length : Int) := by omega
      have ht2 := hl.out
      rw [take_snoc s.W m (by omega), last?_snoc] at ht2
      have HT := Lib.hid ht2
      clear hl W2 hg2 ht2
      by_cases he : s.W[m].1 = p
      · have ht : ((s.W[m].1 : Int) == (p : Int)) = true := by simp [he]
        have HE := Lib.hid he
        clear he
        go_wp2
        go_ret
        refine ⟨g, _, rfl, HGL, ?_, rfl⟩
        have h3 := HT.out
        rw [if_pos HE.out] at h3
        rw [St.says, ← h3]
        exact HW2.out
      · have ht : ((s.W[m].1 : Int) == (p : Int)) = false := by rw [beq_eq_false_iff_ne]; omega
        have HE := Lib.hid he
        clear he
        go_wp2
        go_round
        case rel =>
          refine ⟨_, m, by omega, rfl, by omega, by omega, Lib.hid ?_⟩
          have h3 := HT.out
          rwa [if_neg HE.out] at h3
        case measure => simp [intOf]
    · obtain rfl : k = 0 := by omega
      go_wp2
      go_ret
      refine ⟨bb, _, rfl, ?_, ?_, rfl⟩
      · exact (World.ownsRow.lt H.out.blocks bb rfl).2
      · have h3 := hl.out
        rw [List.take_zero, last?_nil] at h3
        rw [St.says, ← h3]
        exact H.out.bat p hp

/-- A new block of 128 bytes, that holds bs, and no error. -/
def ReadPost (w : World) (bs : List UInt8) (e : Ending) (w' : World) : Prop :=
  ∃ g, e = .returned (.tuple #[.slice (some ⟨g, 0, none⟩) 128 128, .int .i64 0]) ∧ w.heap.size ≤ g ∧ Row w' g bs ∧ Below w.heap.size w w'
theorem length_says {w : World} {base a bb bc : Nat} {wv : Value} {s : St} (h : At w base a bb bc wv s) (p : Nat) (hp : p < s.n) : (s.says p).length = 128 := by
  unfold St.says
  have hst : (s.stand p).length = 128 := by
    have := h.ok.len
    simp [St.stand]
    omega
  have key : ∀ W : List (Nat × List UInt8), (∀ x, x ∈ W → x.2.length = 128) → ((last? W p).getD (s.stand p)).length = 128 := by
    intro W
    induction W using snoc_ind with
    | h0 => intro _; exact hst
    | h1 W x ih =>
      intro hx
      rw [last?_snoc]
      split
      · exact hx x (by simp)
      · exact ih (fun y hy => hx y (by simp [hy]))
  exact key s.W h.wlen

set_option maxHeartbeats 400000 in
theorem read_ok {w : World} {base a bb bc : Nat} {wv : Value} {s : St} (h : At w base a bb bc wv s) (hg : s.gone = false) (p : Nat) (hp : p < s.n) :
    Calls Try.prog 21 #[.pointer (some ⟨a, 0, none⟩), .int .i64 (p : Int)] w (ReadPost w (s.says p)) := by
  have c0 := h.c0
  have c2 := h.c2
  rw [hg] at c2
  have c5 := h.c5
  have hmk : (Instr.makeSlice 33 (.int .i64 128) (.int .i64 128)).run Try.prog w = .ok (.slice (some ⟨w.heap.size, 0, none⟩) 128 128) (w.alloc (.cells (vals (List.replicate 128 0)).toArray 5)) := run_make_bytes w 128 (by omega)
  have R1 := alloc_row w (List.replicate 128 0)
  have B1 := (Below.refl w.heap.size w).alloc (Nat.le_refl _) (.cells (vals (List.replicate 128 0)).toArray 5)
  have A1 := h.below B1
  have hl := length_says h p hp
  generalize w.alloc (.cells (vals (List.replicate 128 0)).toArray 5) = w1 at hmk R1 B1 A1
  obtain ⟨g, hgg⟩ : ∃ g, g = w.heap.size := ⟨_, rfl⟩
  rw [← hgg] at hmk R1
  have HG := Lib.hid hgg
  have HL := Lib.hid hl
  have HA := Lib.hid A1
  have HR := Lib.hid R1
  have HB := Lib.hid B1
  clear hgg hl A1 R1 B1 h hg
  go_enter Try.func21, Try.ntmps21
  go_wp2_with fail
  refine (made_self a _ c5).mono ?_
  rintro e w' ⟨rfl, rfl⟩
  go_wp2_with fail
  refine (has_yes a bb s.n bc p _ c0 (by omega) (by omega)).mono ?_
  rintro e w' ⟨rfl, rfl⟩
  go_wp2_with fail
  refine (says_at HA.out p hp).mono ?_
  rintro e w' ⟨q, o, rfl, _, hq, rfl⟩
  obtain ⟨w2, hcopy, R2, B2⟩ := run_copy_bytes w1 3 g 0 128 128 _ (s.says p) HR.out (some ⟨q, o, none⟩) 128 128 HL.out hq.told (by omega) (by simp)
  rw [splice_all _ _ (by rw [HL.out]; simp)] at R2
  have HR2 := Lib.hid R2
  clear R2 hq c0 c2 c5 hmk
  go_wp2_with fail
  go_ret2
  exact ⟨g, rfl, by rw [HG.out]; exact Nat.le_refl _, HR2.out, HB.out.trans (B2.mono (by rw [HG.out]; exact Nat.le_refl _))⟩
theorem read_down {w : World} {base a bb bc : Nat} {wv : Value} {s : St} (h : At w base a bb bc wv s) (hg : s.gone = true) (p : Int) :
    Calls Try.prog 21 #[.pointer (some ⟨a, 0, none⟩), .int .i64 p] w fun e w' => e = .returned (.tuple #[.slice none 0 0, .int .i64 20]) ∧ w = w' := by
  have c2 := h.c2
  rw [hg] at c2
  have c5 := h.c5
  have H := Lib.hid h
  clear h hg
  go_enter Try.func21, Try.ntmps21
  go_wp2_with fail
  refine (made_self a _ c5).mono ?_
  rintro e w' ⟨rfl, rfl⟩
  go_wp2_with fail
  go_ret2
  exact ⟨rfl, rfl⟩
theorem read_out {w : World} {base a bb bc : Nat} {wv : Value} {s : St} (h : At w base a bb bc wv s) (hg : s.gone = false) (p : Int) (hp : ¬ (0 ≤ p ∧ p < s.n)) :
    Calls Try.prog 21 #[.pointer (some ⟨a, 0, none⟩), .int .i64 p] w fun e w' => e = .returned (.tuple #[.slice none 0 0, .int .i64 2]) ∧ w = w' := by
  have c0 := h.c0
  have c2 := h.c2
  rw [hg] at c2
  have c5 := h.c5
  have H := Lib.hid h
  have HP := Lib.hid hp
  clear h hg hp
  go_enter Try.func21, Try.ntmps21
  go_wp2_with fail
  refine (made_self a _ c5).mono ?_
  rintro e w' ⟨rfl, rfl⟩
  go_wp2_with fail
  refine (has_no a bb s.n bc p _ c0 HP.out).mono ?_
  rintro e w' ⟨rfl, rfl⟩
  go_wp2_with fail
  go_ret2
  exact ⟨rfl, rfl⟩
end Go.Proofs.Ythcjhbjhghfhjaa.Dsk
