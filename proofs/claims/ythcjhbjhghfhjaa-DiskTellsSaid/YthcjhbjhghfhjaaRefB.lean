/- The reference's disk: noughts, stands, Read. -/
import Derived.Test.YthcjhbjhghfhjaaRefA
namespace Go.Proofs.Ythcjhbjhghfhjaa.Dsk
open Go.RowKit Go.Proofs.Ythcjhbjhghfhjaa.Oct
set_option linter.unusedVariables false

theorem own_form {w : World} {base : Nat} {e : TypeId} {size n : Nat} {v : Value} {xs : List Value} (h : w.ownsRow base e size v n xs) : ∃ A cap, v = .slice A n cap ∧ n ≤ cap ∧ cap ≤ maxLen ∧ (0 < n → ∃ g, A = some ⟨g, 0, none⟩ ∧ base ≤ g ∧ g < w.heap.size) := by
  rcases h.2 with ⟨rfl, rfl⟩ | ⟨g, cap, cur, rfl, h0, h3, h1, h2, _⟩
  · exact ⟨none, 0, rfl, Nat.le_refl _, Nat.zero_le _, fun h => by omega⟩
  · exact ⟨_, cap, rfl, h1, h2, fun _ => ⟨g, rfl, h0, (Array.getElem?_eq_some_iff.1 h3).1⟩⟩
theorem own_wait {w : World} {base n g cap : Nat} {l : List (Nat × List UInt8)} (h : w.ownsRow base 99 2 (.slice (some ⟨g, 0, none⟩) n cap) l.length (wz l)) (i : Nat) (hi : i < l.length) :
    w.cell? ⟨g, i * 2, none⟩ = some (.int .i64 (l[i].1 : Int)) ∧ w.cell? ⟨g, i * 2 + 1, none⟩ = some (txt l[i].2) := by
  have h1 := wz_at l i hi
  have k := World.ownsRow.cells h (g := g) rfl
  have a := k _ _ h1.1
  have b := k _ _ h1.2
  rw [Oct.add_plain, Nat.zero_add] at a b
  exact ⟨a, b⟩

def StrPost (w : World) (bs : List UInt8) (e : Ending) (w' : World) : Prop := e = .returned (txt bs) ∧ Below w.heap.size w w'
def zeros : List UInt8 := List.replicate 128 0
set_option maxRecDepth 100000 in
theorem noughts_any (w : World) : Calls Try.prog 47 #[] w (StrPost w zeros) := by
  have hm : (Instr.makeSlice 33 (.int .i64 128) (.int .i64 128)).run Try.prog w = .ok (.slice (some ⟨w.heap.size, 0, none⟩) 128 128) (w.alloc (.cells (vals (List.replicate 128 0)).toArray 5)) := run_make_bytes w 128 (by omega)
  have b1 := (Below.refl w.heap.size w).alloc (Nat.le_refl _) (.cells (vals (List.replicate 128 0)).toArray 5)
  have R1 : Row (w.alloc (.cells (vals (List.replicate 128 0)).toArray 5)) w.heap.size (List.replicate 128 0) := heap_alloc_new w _
  have k1 := conv_told (P := Try.prog) R1.has.told 128 33 9 5 Try.underlying33 Try.underlying5 Try.underlying9
  rw [List.length_replicate] at k1
  have HB := Lib.hid b1
  clear b1 R1
  generalize w.alloc (.cells (vals (List.replicate 128 0)).toArray 5) = w1 at *
  go_enter Try.func47, Try.ntmps47
  go_wp2
  go_ret
  exact ⟨rfl, HB.out⟩

def Rf.stands (r : Rf) (p : Nat) : List UInt8 := (last? r.came p).getD zeros
set_option maxRecDepth 100000 in
set_option maxHeartbeats 800000 in
theorem rstands_at {w : World} {base rb : Nat} {cv wv : Value} {r : Rf} (h : RAt w base rb cv wv r) (p : Nat) :
    Calls Try.prog 46 #[.pointer (some ⟨rb, 0, none⟩), .int .i64 (p : Int)] w (StrPost w (r.stands p)) := by
  obtain ⟨A, cap, rfl, hc1, hc2, hA⟩ := own_form h.came
  have c1 := h.c1
  have hfew := h.few.1
  unfold maxLen at hc2
  have H := Lib.hid h
  have HA := Lib.hid hA
  clear h hA
  go_enter Try.func46, Try.ntmps46
  go_wp2_with fail
  go_loopw [5] (fun i wr => ∃ k : Nat, k ≤ r.came.length ∧ i = .int .i64 ((k : Int) - 1) ∧ last? r.came p = last? (r.came.take k) p ∧ w = wr) (fun i _ => (intOf i + 1).toNat)
  case atStart => exact ⟨r.came.length, Nat.le_refl _, rfl, by rw [List.take_length], rfl⟩
  case round =>
    obtain ⟨k, hk, rfl, hl, rfl⟩ := hrel
    have HLS := Lib.hid hl
    clear hl
    by_cases hpos : 0 < k
    · obtain ⟨j, rfl⟩ : ∃ j, k = j + 1 := ⟨k - 1, by omega⟩
      have hj1 : ((j + 1 : Nat) : Int) - 1 = (j : Int) := by omega
      rw [hj1]
      clear hj1
      have hlt : j < r.came.length := by omega
      have hji : (j : Int) < (r.came.length : Int) := by omega
      obtain ⟨g, rfl, _, _⟩ := HA.out (by omega)
      obtain ⟨d1, d2⟩ := own_wait H.out.came j hlt
      have HT := Lib.hid (take_snoc r.came j hlt)
      generalize r.came[j] = x at d1 d2 HT
      obtain ⟨xp, xs⟩ := x
      by_cases hp : xp = p
      · subst hp
        have HR := Lib.hid (show r.stands xp = xs by unfold Rf.stands; rw [HLS.out, HT.out, last?_snoc, if_pos rfl]; rfl)
        go_wp2
        go_ret
        rw [HR.out]
        exact ⟨rfl, Below.refl _ _⟩
      · have hpi : (xp : Int) ≠ (p : Int) := by omega
        have HR := Lib.hid (show last? r.came p = last? (r.came.take j) p by rw [HLS.out, HT.out, last?_snoc, if_neg hp])
        go_wp2
        go_roundw
        case rel => exact ⟨j, by omega, by go_num, HR.out, by trivial⟩
        case measure => simp [intOf] <;> omega
    · obtain rfl : k = 0 := by omega
      have HR := Lib.hid (show r.stands p = zeros by unfold Rf.stands; rw [HLS.out, List.take_zero]; rfl)
      go_wp2_with fail
      refine (noughts_any _).mono ?_
      rintro e w2 ⟨rfl, b2⟩
      have HB := Lib.hid b2
      clear b2
      go_wp2_with fail
      go_ret
      rw [HR.out]
      exact ⟨rfl, HB.out⟩

/-! ### Read -/
def Rf.says (r : Rf) (p : Nat) : List UInt8 := (last? r.waits p).getD (r.stands p)
def Rf.doRead (r : Rf) (p : Int) : Int × List UInt8 := if r.down = true then (20, []) else if ¬ (0 ≤ p ∧ p < r.N) then (2, []) else (0, r.says p.toNat)
def RReadPost (w : World) (a : Int × List UInt8) (e : Ending) (w' : World) : Prop := e = .returned (.tuple #[txt a.2, .int .i64 a.1]) ∧ Below w.heap.size w w'
set_option maxRecDepth 100000 in
set_option maxHeartbeats 800000 in
theorem rread_at {w : World} {base rb : Nat} {cv wv : Value} {r : Rf} (h : RAt w base rb cv wv r) (p : Int) :
    Calls Try.prog 35 #[.pointer (some ⟨rb, 0, none⟩), .int .i64 p] w (RReadPost w (r.doRead p)) := by
  obtain ⟨A, cap, rfl, hc1, hc2, hA⟩ := own_form h.waits
  have c0 := h.c0
  have c2 := h.c2
  have c4 := h.c4
  have hfew := h.few.2
  unfold maxLen at hc2
  have H := Lib.hid h
  have HA := Lib.hid hA
  clear h hA
  by_cases hd : r.down = true
  · have HD := Lib.hid (show r.doRead p = (20, []) by simp [Rf.doRead, hd])
    rw [hd] at c4
    clear hd
    go_enter Try.func35, Try.ntmps35
    go_wp2
    go_ret2
    rw [HD.out]
    exact ⟨rfl, Below.refl _ _⟩
  · have hdf : r.down = false := by simpa using hd
    by_cases hp : 0 ≤ p ∧ p < r.N
    · obtain ⟨q, rfl⟩ := Int.eq_ofNat_of_zero_le hp.1
      have HD := Lib.hid (show r.doRead (q : Int) = (0, r.says q) by unfold Rf.doRead; rw [if_neg hd, if_neg (fun h => h hp)]; simp)
      rw [hdf] at c4
      have hp2 := hp.2
      clear hd hdf hp
      go_enter Try.func35, Try.ntmps35
      go_wp2_with fail
      refine (rstands_at H.out q).mono ?_
      rintro e w2 ⟨rfl, b2⟩
      have HB := Lib.hid b2
      have H2 := Lib.hid (H.out.below b2)
      clear b2 c0 c2 c4
      have c2 := H2.out.c2
      go_wp2_with fail
      go_loopw [6, 7] (fun s i wr => ∃ k : Nat, k ≤ r.waits.length ∧ i = .int .i64 (k : Int) ∧ s = txt ((last? (r.waits.take k) q).getD (r.stands q)) ∧ w2 = wr) (fun _ i _ => r.waits.length - (intOf i).toNat)
      case atStart => exact ⟨0, Nat.zero_le _, rfl, by rw [List.take_zero]; rfl, rfl⟩
      case round =>
        obtain ⟨k, hk, rfl, rfl, rfl⟩ := hrel
        by_cases hlt : k < r.waits.length
        · have hki : (k : Int) < (r.waits.length : Int) := by omega
          obtain ⟨g, rfl, _, _⟩ := HA.out (by omega)
          obtain ⟨d1, d2⟩ := own_wait H2.out.waits k hlt
          have HT := Lib.hid (take_snoc r.waits k hlt)
          generalize r.waits[k] = x at d1 d2 HT
          obtain ⟨xp, xs⟩ := x
          by_cases hpq : xp = q
          · subst hpq
            have HR := Lib.hid (show xs = (last? (r.waits.take (k + 1)) xp).getD (r.stands xp) by rw [HT.out, last?_snoc, if_pos rfl]; rfl)
            go_wp2
            go_roundw
            case rel => exact ⟨k + 1, by omega, by go_num, by rw [← HR.out], by trivial⟩
            case measure => simp [intOf] <;> omega
          · have hpi : (xp : Int) ≠ (q : Int) := by omega
            have HR := Lib.hid (show last? (r.waits.take (k + 1)) q = last? (r.waits.take k) q by rw [HT.out, last?_snoc, if_neg hpq])
            go_wp2
            go_roundw
            case rel => exact ⟨k + 1, by omega, by go_num, by rw [HR.out], by trivial⟩
            case measure => simp [intOf] <;> omega
        · obtain rfl : k = r.waits.length := by omega
          go_wp2
          go_ret2
          rw [HD.out, List.take_length]
          exact ⟨rfl, HB.out⟩
    · have HD := Lib.hid (show r.doRead p = (2, []) by simp [Rf.doRead, hd, hp])
      rw [hdf] at c4
      by_cases h0 : p < 0
      · clear hd hdf hp
        go_enter Try.func35, Try.ntmps35
        go_wp2
        go_ret2
        rw [HD.out]
        exact ⟨rfl, Below.refl _ _⟩
      · have hn : r.N ≤ p := by omega
        clear hd hdf hp
        go_enter Try.func35, Try.ntmps35
        go_wp2
        go_ret2
        rw [HD.out]
        exact ⟨rfl, Below.refl _ _⟩
end Go.Proofs.Ythcjhbjhghfhjaa.Dsk
