/- Write, where it is not done; Cached. -/
import Derived.Test.YthcjhbjhghfhjaaDskG
namespace Go.Proofs.Ythcjhbjhghfhjaa.Dsk
open Go.RowKit Go.Proofs.Ythcjhbjhghfhjaa.Oct
set_option linter.unusedVariables false

theorem write_down {w : World} {base a bb bc : Nat} {wv : Value} {s : St} (h : At w base a bb bc wv s) (hg : s.gone = true) (p : Int) (bv : Value) :
    Calls Try.prog 25 #[.pointer (some ⟨a, 0, none⟩), .int .i64 p, bv] w fun e w' => e = .returned (.int .i64 20) ∧ w = w' := by
  have c2 := h.c2
  rw [hg] at c2
  have c5 := h.c5
  have H := Lib.hid h
  clear h hg
  go_enter Try.func25, Try.ntmps25
  go_wp2_with fail
  refine (made_self a _ c5).mono ?_
  rintro e w' ⟨rfl, rfl⟩
  go_wp2_with fail
  go_ret
  exact ⟨rfl, rfl⟩
theorem write_out {w : World} {base a bb bc : Nat} {wv : Value} {s : St} (h : At w base a bb bc wv s) (hg : s.gone = false) (p : Int) (hp : ¬ (0 ≤ p ∧ p < s.n)) (ba : Option Addr) (len cap : Nat) :
    Calls Try.prog 25 #[.pointer (some ⟨a, 0, none⟩), .int .i64 p, .slice ba len cap] w fun e w' => e = .returned (.int .i64 2) ∧ w = w' := by
  have c0 := h.c0
  have c2 := h.c2
  rw [hg] at c2
  have c5 := h.c5
  have H := Lib.hid h
  have HP := Lib.hid hp
  clear h hg hp
  go_enter Try.func25, Try.ntmps25
  go_wp2_with fail
  refine (made_self a _ c5).mono ?_
  rintro e w' ⟨rfl, rfl⟩
  go_wp2_with fail
  refine (has_no a bb s.n bc p _ c0 HP.out).mono ?_
  rintro e w' ⟨rfl, rfl⟩
  go_wp2_with fail
  go_ret
  exact ⟨rfl, rfl⟩
theorem write_len {w : World} {base a bb bc : Nat} {wv : Value} {s : St} (h : At w base a bb bc wv s) (hg : s.gone = false) (p : Nat) (hp : p < s.n) (ba : Option Addr) (len cap : Nat) (hl : len ≠ 128) :
    Calls Try.prog 25 #[.pointer (some ⟨a, 0, none⟩), .int .i64 (p : Int), .slice ba len cap] w fun e w' => e = .returned (.int .i64 2) ∧ w = w' := by
  have c0 := h.c0
  have c2 := h.c2
  rw [hg] at c2
  have c5 := h.c5
  have H := Lib.hid h
  have hne : ((len : Int) != 128) = true := by rw [bne_iff_ne]; omega
  clear h hg hl
  go_enter Try.func25, Try.ntmps25
  go_wp2_with fail
  refine (made_self a _ c5).mono ?_
  rintro e w' ⟨rfl, rfl⟩
  go_wp2_with fail
  refine (has_yes a bb s.n bc p _ c0 (by omega) (by omega)).mono ?_
  rintro e w' ⟨rfl, rfl⟩
  go_wp2_with fail
  go_ret
  exact ⟨rfl, rfl⟩
theorem write_met {w : World} {base a bb bc : Nat} {wv : Value} {s : St} (h : At w base a bb bc wv s) (hg : s.gone = false) (hc : s.can = false) (p : Nat) (hp : p < s.n) (ba : Option Addr) (cap : Nat) :
    Calls Try.prog 25 #[.pointer (some ⟨a, 0, none⟩), .int .i64 (p : Int), .slice ba 128 cap] w fun e w' => e = .returned (.int .i64 20) ∧ At w' base a bb bc wv s.spent ∧ Turned dT base w w' := by
  have c0 := h.c0
  have c2 := h.c2
  rw [hg] at c2
  have c5 := h.c5
  have H := Lib.hid h
  have HC := Lib.hid hc
  clear h hg hc
  go_enter Try.func25, Try.ntmps25
  go_wp2_with fail
  refine (made_self a _ c5).mono ?_
  rintro e w' ⟨rfl, rfl⟩
  go_wp2_with fail
  refine (has_yes a bb s.n bc p _ c0 (by omega) (by omega)).mono ?_
  rintro e w' ⟨rfl, rfl⟩
  go_wp2_with fail
  refine (spend_at H.out).mono ?_
  rintro e w1 ⟨rfl, A1, T1⟩
  rw [HC.out]
  have HA1 := Lib.hid A1
  have HT1 := Lib.hid T1
  clear A1 T1 c0 c2 c5
  go_wp2_with fail
  go_ret
  exact ⟨rfl, HA1.out, HT1.out⟩

/-! ### Cached -/
/-- A slice of whole numbers is told. -/
def Ints (w : World) (A : Option Addr) (zs : List Int) : Prop := zs = [] ∨ ∃ b o, A = some ⟨b, o, none⟩ ∧ ∀ i (h : i < zs.length), w.cell? ⟨b, o + i, none⟩ = some (.int .i64 zs[i])
def ints (zs : List Int) : List Value := zs.map fun z => .int .i64 z
def IRow (w : World) (g : Nat) (zs : List Int) : Prop := w.heap[g]? = some (.cells (ints zs).toArray 3 (0, 0))
theorem IRow.ints {w : World} {g : Nat} {zs : List Int} (h : IRow w g zs) : Ints w (some ⟨g, 0, none⟩) zs := by
  refine .inr ⟨g, 0, rfl, fun i hi => ?_⟩
  unfold IRow at h
  simp [World.cell?, h, Dsk.ints, hi]
theorem IRow.lt {w : World} {g : Nat} {zs : List Int} (h : IRow w g zs) : g < w.heap.size := (Array.getElem?_eq_some_iff.1 h).1
theorem Ints.below {w w' : World} {A : Option Addr} {zs : List Int} {B : Nat} (h : Ints w A zs) (hb : Below w.heap.size w w') : Ints w' A zs := by
  rcases h with h | ⟨b, o, h, k⟩
  · exact .inl h
  · refine .inr ⟨b, o, h, fun i hi => ?_⟩
    have := k i hi
    exact (hb.cell (p := ⟨b, o + i, none⟩) (World.block_lt_of_cell? w _ this)).trans this
theorem made_izeros (n : Nat) : madeCells (Value.int .i64 0).cells n = (ints (List.replicate n 0)).toArray := by
  apply Array.ext
  · simp [madeCells, ints]
  · intro i h1 h2
    simp [madeCells, ints, Value.cells, Nat.mod_one]
theorem run_make_ints (w : World) (n : Nat) (hn : n ≤ 35184372088832) :
    (Instr.makeSlice 49 (.int .i64 (n : Int)) (.int .i64 (n : Int))).run Try.prog w = .ok (.slice (some ⟨w.heap.size, 0, none⟩) n n) (w.alloc (.cells (ints (List.replicate n 0)).toArray 3)) := by
  have i0 : (Try.prog.info? 3).map (fun i => (i.zero, i.size, i.bytes)) = some (some (.int .i64 0), 1, 8) := by kernel_rfl
  obtain ⟨i0, hi, hz0, hz1, hz2⟩ := info_parts i0
  have h := run_make (P := Try.prog) w 49 3 i0 (.int .i64 0) Try.underlying49 hi hz0 .i64 .i64 n n (by omega) (by omega) (by rw [hz2]; omega) (by omega)
  rw [hz1, Nat.mul_one, Int.toNat_natCast, made_izeros] at h
  exact h

/-- The places of what waits. -/
def St.places (s : St) : List Int := s.W.map fun x => (x.1 : Int)
def cachedTo (s : St) (k : Nat) : List Int := s.places.take k ++ List.replicate (s.W.length - k) 0
theorem length_cachedTo (s : St) (k : Nat) (hk : k ≤ s.W.length) : (cachedTo s k).length = s.W.length := by simp [cachedTo, St.places]; omega
theorem cachedTo_set (s : St) (k : Nat) (hk : k < s.W.length) : (ints (cachedTo s k)).set k (.int .i64 (s.W[k].1 : Int)) = ints (cachedTo s (k + 1)) := by
  unfold ints cachedTo
  have h1 : (s.places.take k).length = k := by simp [St.places]; omega
  have h2 : k < s.places.length := by simp [St.places]; exact hk
  rw [← List.map_set, List.set_append_right (h := by omega), h1, Nat.sub_self, List.take_succ_eq_append_getElem h2, List.append_assoc]
  have h3 : s.W.length - k = (s.W.length - (k + 1)) + 1 := by omega
  rw [h3, List.replicate_succ]
  simp [St.places]
def CachedPost (w : World) (s : St) (e : Ending) (w' : World) : Prop := ∃ g, e = .returned (.slice (some ⟨g, 0, none⟩) s.W.length s.W.length) ∧ w.heap.size ≤ g ∧ IRow w' g s.places ∧ Below w.heap.size w w'
set_option maxHeartbeats 800000 in
theorem cached_at {w : World} {base a bb bc : Nat} {wv : Value} {s : St} (h : At w base a bb bc wv s) :
    Calls Try.prog 19 #[.pointer (some ⟨a, 0, none⟩)] w (CachedPost w s) := by
  have c5 := h.c5
  have c1 := h.c1
  obtain ⟨A, cap, hv, hwc, hm, hA⟩ := h.wform
  rw [hv] at c1
  have hfew := h.ok.few
  unfold maxLen at hm
  have hmk := run_make_ints w s.W.length (by omega)
  have R1 : IRow (w.alloc (.cells (ints (List.replicate s.W.length 0)).toArray 3)) w.heap.size (cachedTo s 0) := by
    unfold cachedTo
    rw [List.take_zero, List.nil_append, Nat.sub_zero]
    exact heap_alloc_new w _
  have B1 := (Below.refl w.heap.size w).alloc (Nat.le_refl _) (.cells (ints (List.replicate s.W.length 0)).toArray 3)
  have H := Lib.hid h
  have HV := Lib.hid hv
  have HAA := Lib.hid hA
  clear h hv hA
  go_enter Try.func19, Try.ntmps19
  go_wp2_with fail
  refine (made_self a _ c5).mono ?_
  rintro e w' ⟨rfl, rfl⟩
  have hcell := B1.cell (p := ⟨a, 1, none⟩) H.out.lt
  have HH := Lib.hid H.out.lt
  go_wp2_with fail
  generalize w.alloc (.cells (ints (List.replicate s.W.length 0)).toArray 3) = w1 at *
  obtain ⟨g, hg⟩ : ∃ g, g = w.heap.size := ⟨_, rfl⟩
  rw [← hg] at R1 ⊢
  have HG := Lib.hid hg
  have HR1 := Lib.hid R1
  have HB1 := Lib.hid B1
  clear hg R1 B1 hcell hmk c5 c1
  go_loopw [21] (fun i wr => ∃ k : Nat, k ≤ s.W.length ∧ i = .int .i64 (k : Int) ∧ Hid (IRow wr g (cachedTo s k)) ∧ Below w.heap.size w wr) (fun i _ => s.W.length - (intOf i).toNat)
  case atStart => exact ⟨0, Nat.zero_le _, rfl, HR1, HB1.out⟩
  case round =>
    obtain ⟨k, hk, rfl, HR, hB⟩ := hrel
    have HB := Lib.hid hB
    have AR := H.out.below hB
    have HAR := Lib.hid AR
    clear hB AR
    by_cases hlt : k < s.W.length
    · obtain ⟨g2, hg2, _⟩ := HAA.out (by omega)
      subst hg2
      have c1 := HAR.out.c1
      rw [HV.out] at c1
      have W1 := (HAR.out.wat HV.out k hlt).1
      have hki : (k : Int) < (s.W.length : Int) := by omega
      have hc := cell_of_row wr g k _ _ _ HR.out
      have hlen : k < (ints (cachedTo s k)).length := by rw [ints, List.length_map, length_cachedTo s k hk]; exact hlt
      rw [List.getElem?_toArray, List.getElem?_eq_getElem hlen] at hc
      have hf : wr.frozen? ⟨g, k, none⟩ = false := frozen_of_row wr g k _ _ HR.out
      have hs := heap_setCell_same wr g k _ _ (.int .i64 (s.W[k].1 : Int)) HR.out
      rw [List.setIfInBounds_toArray, cachedTo_set s k hlt] at hs
      have HS := Lib.hid (show IRow (wr.setCell ⟨g, k, none⟩ (.int .i64 (s.W[k].1 : Int))) g (cachedTo s (k + 1)) from hs)
      have HB2 := Lib.hid (HB.out.setCell (p := ⟨g, k, none⟩) (by rw [HG.out]; exact Nat.le_refl _) (.int .i64 (s.W[k].1 : Int)))
      generalize (ints (cachedTo s k))[k] = old at hc
      clear hs hlen
      go_wp2
      go_roundw
      case rel => exact ⟨k + 1, by omega, by go_num, HS, HB2.out⟩
      case measure => simp [intOf]; omega
    · obtain rfl : k = s.W.length := by omega
      go_wp2
      go_ret
      refine ⟨g, rfl, by rw [HG.out]; exact Nat.le_refl _, ?_, HB.out⟩
      have hr := HR.out
      unfold cachedTo at hr
      rwa [Nat.sub_self, List.replicate_zero, List.append_nil, List.take_of_length_le (by simp [St.places])] at hr
end Go.Proofs.Ythcjhbjhghfhjaa.Dsk
