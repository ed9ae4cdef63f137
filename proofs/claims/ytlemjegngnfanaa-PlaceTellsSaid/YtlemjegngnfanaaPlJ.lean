/- Counts: a count page's counts. -/
import Derived.Test.YtlemjegngnfanaaPlI
namespace Go.Proofs.Ytlemjegngnfanaa.Pl
open Go.RowKit Go.Proofs.Ytlemjegngnfanaa.Oct Go.Proofs.Ytlemjegngnfanaa.Mv Go.Proofs.Ytlemjegngnfanaa.Tl Go.Proofs.Ytlemjegngnfanaa.Pk Go.Maps
set_option linter.unusedVariables false

theorem pages_nat_ge {n p : Nat} (h : p < pg n) : p * 61 < n := by unfold pg at h; omega
/-- How many counts a page has. -/
def many (s : St) (p : Nat) : Nat := min 61 (s.n - p * 61)
/-- The first i of them; noughts behind. -/
def fill (s : St) (p i : Nat) : List UInt16 := (List.range (many s p)).map fun j => if j < i then s.cnt (p * 61 + j) else 0
theorem length_fill (s : St) (p i : Nat) : (fill s p i).length = many s p := by simp [fill]
theorem fill_zero (s : St) (p : Nat) : fill s p 0 = List.replicate (many s p) 0 := by
  apply List.ext_getElem <;> simp [fill]
theorem fill_succ (s : St) (p : Nat) {i : Nat} (hi : i < many s p) : (fill s p i).set i (s.cnt (p * 61 + i)) = fill s p (i + 1) := by
  apply List.ext_getElem
  · simp [fill]
  · intro j h1 h2
    simp only [fill, List.getElem_set, List.getElem_map, List.getElem_range]
    by_cases e : i = j
    · subst e
      rw [if_pos rfl, if_pos (by omega)]
    · rw [if_neg e]
      by_cases h : j < i
      · rw [if_pos h, if_pos (by omega)]
      · rw [if_neg h, if_neg (by omega)]
/-- The counts of a page. -/
def part (s : St) (p : Nat) : List UInt16 := (List.range (many s p)).map fun j => s.cnt (p * 61 + j)
theorem fill_all (s : St) (p : Nat) : fill s p (many s p) = part s p := by
  apply List.ext_getElem
  · simp [fill, part]
  · intro j h1 h2
    simp only [fill, part, List.getElem_map, List.getElem_range]
    rw [if_pos (by simpa [fill] using h1)]
theorem length_part (s : St) (p : Nat) : (part s p).length = many s p := by simp [part]
set_option maxRecDepth 100000 in
theorem counts_nay (v : Value) (page : Int) (w : World) (h : Nay w v) :
    Calls Try.prog 34 #[v, .int .i64 page] w fun e w' => e = .returned (.slice none 0 0) ∧ w = w' := by
  have e0 : pagesOf 0 = 0 := by decide
  by_cases h0 : page < 0
  · go_enter Try.func34, Try.ntmps34
    go_wp2_with fail
    go_ret
    exact ⟨rfl, rfl⟩
  · have h1 : (0 : Int) ≤ page := by omega
    go_enter Try.func34, Try.ntmps34
    go_wp2_with fail
    refine (blocks_nay v _ h).mono ?_
    rintro e w' ⟨rfl, rfl⟩
    go_wp2_with fail
    refine (pages_any 0 (by omega) (by omega) _).mono ?_
    rintro e w' ⟨rfl, rfl⟩
    rw [e0]
    go_wp2_with fail
    go_ret
    exact ⟨rfl, rfl⟩
set_option maxRecDepth 100000 in
theorem counts_no {w : World} {a cb mb c : Nat} {s : St} (h : At w a cb mb c s) (page : Int) (hp : page < 0 ∨ (pg s.n : Int) ≤ page) :
    Calls Try.prog 34 #[.pointer (some ⟨a, 0, none⟩), .int .i64 page] w fun e w' => e = .returned (.slice none 0 0) ∧ w = w' := by
  have H := Lib.hid h
  have hn : s.n ≤ 4096 := h.ok.hi
  clear h
  by_cases h0 : page < 0
  · clear hp
    go_enter Try.func34, Try.ntmps34
    go_wp2_with fail
    go_ret
    exact ⟨rfl, rfl⟩
  · have h1 : (pg s.n : Int) ≤ page := by omega
    clear hp
    go_enter Try.func34, Try.ntmps34
    go_wp2_with fail
    refine (blocks_at H.out).mono ?_
    rintro e w' ⟨rfl, rfl⟩
    go_wp2_with fail
    refine (pages_eq s.n (by omega) _).mono ?_
    rintro e w' ⟨rfl, rfl⟩
    go_wp2_with fail
    go_ret
    exact ⟨rfl, rfl⟩
set_option maxRecDepth 100000 in
set_option maxHeartbeats 2000000 in
theorem counts_yes {w : World} {a cb mb c : Nat} {s : St} (h : At w a cb mb c s) (p : Nat) (hp : p < pg s.n) :
    Calls Try.prog 34 #[.pointer (some ⟨a, 0, none⟩), .int .i64 (p : Int)] w fun e w' => ∃ g, e = .returned (.slice (some ⟨g, 0, none⟩) (many s p) (many s p)) ∧ RowV w' g 22 (nums (part s p)) ∧ w.heap.size ≤ g ∧ Below w.heap.size w w' := by
  have H := Lib.hid h
  have hn : s.n ≤ 4096 := h.ok.hi
  have hpl := pg_le hn
  have hge := pages_nat_ge hp
  have hm1 : many s p ≤ 4096 := by unfold many; omega
  have hm0 : 1 ≤ many s p := by unfold many; omega
  have hmin : min (61 : Int) ((s.n : Int) - (p : Int) * 61) = (many s p : Int) := by unfold many; omega
  have HMN := Lib.hid (show p * 61 + many s p ≤ s.n by unfold many; omega)
  have hmk := run_make_words
  have hpp : (p : Int) < (pg s.n : Int) := by omega
  have hp0 : (0 : Int) ≤ (p : Int) := by omega
  clear h hp
  go_enter Try.func34, Try.ntmps34
  go_wp2_with fail
  refine (blocks_at H.out).mono ?_
  rintro e w' ⟨rfl, rfl⟩
  go_wp2_with fail
  refine (pages_eq s.n (by omega) _).mono ?_
  rintro e w' ⟨rfl, rfl⟩
  go_wp2_with fail
  refine (blocks_at H.out).mono ?_
  rintro e w' ⟨rfl, rfl⟩
  go_wp2_with fail
  have hz : (w.alloc (.cells (nums (List.replicate (many s p) 0)).toArray 22)).heap.size = w.heap.size + 1 := by simp
  have R1 := alloc_rowV w 22 (nums (List.replicate (many s p) 0))
  rw [← fill_zero] at R1
  have B1 := (Below.refl w.heap.size w).alloc (Nat.le_refl _) (.cells (nums (List.replicate (many s p) 0)).toArray 22)
  rw [← fill_zero] at B1
  have HR := Lib.hid R1
  have HB := Lib.hid B1
  have hm0i : ((many s p : Nat) : Int) ≤ 4096 := by omega
  clear hmk hz R1 B1 hpp
  rw [← fill_zero]
  generalize w.alloc (.cells (nums (fill s p 0)).toArray 22) = w1 at *
  go_loopw [27] (fun i wr => ∃ k : Nat, k ≤ many s p ∧ i = .int .i64 (k : Int) ∧ Hid (RowV wr w.heap.size 22 (nums (fill s p k))) ∧ Hid (Below w.heap.size w wr)) (fun i _ => many s p - (Go.RowKit.intOf i).toNat)
  case atStart => exact ⟨0, Nat.zero_le _, rfl, HR, HB⟩
  case round =>
    obtain ⟨k, hk, rfl, HRr, HBr⟩ := hrel
    by_cases hlt : k < many s p
    · have hki : (k : Int) < (many s p : Int) := by omega
      have hge0 : (0 : Int) ≤ (k : Int) := by omega
      have HA := Lib.hid (H.out.kept HBr.out)
      have hg := getZ_nat s (i := p * 61 + k) (by have := HMN.out; omega)
      have e1 : ((p * 61 + k : Nat) : Int) = (p : Int) * 61 + (k : Int) := by omega
      rw [e1] at hg
      have hu := u16_lt (s.cnt (p * 61 + k))
      have HS := Lib.hid (HRr.out.set k (num (s.cnt (p * 61 + k))))
      rw [← nums_set, fill_succ s p hlt] at HS
      have fz := HRr.out.free k
      have hc := HRr.out.cellAt (i := k) (nums_at _ _ (by rw [length_fill]; exact hlt))
      unfold num at HS hc
      have HU := Lib.hid (ButL.set wr w.heap.size k (.int .u16 ((s.cnt (p * 61 + k)).toNat : Int)))
      go_wp2_with fail
      refine (get_any HA.out ((p : Int) * 61 + (k : Int))).mono ?_
      rintro e w' ⟨rfl, rfl⟩
      rw [hg]
      obtain ⟨x, hx⟩ : ∃ x, x = (s.cnt (p * 61 + k)).toNat := ⟨_, rfl⟩
      rw [← hx] at hu HS HU ⊢
      clear hx hg e1
      go_wp2_with fail
      exact ⟨⟨k + 1, by omega, by go_num, HS, Lib.hid (HBr.out.trans (HU.out.below (by simp) HBr.out.size))⟩, by simp [Go.RowKit.intOf]; omega⟩
    · have hki : ¬ (k : Int) < (many s p : Int) := by omega
      obtain rfl : k = many s p := by omega
      go_wp2_with fail
      go_ret
      refine ⟨w.heap.size, rfl, ?_, Nat.le_refl _, HBr.out⟩
      rw [← fill_all]; exact HRr.out
end Go.Proofs.Ytlemjegngnfanaa.Pl
