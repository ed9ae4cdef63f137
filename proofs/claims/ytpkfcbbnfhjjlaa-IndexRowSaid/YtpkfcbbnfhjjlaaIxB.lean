/- Contracts: index.at, Pages, Place, Encode. -/
import Derived.Test.YtpkfcbbnfhjjlaaIxA
import Derived.StillTailTactics
import Derived.Deep.QuietTactic
import Derived.BigQuiet
namespace Go.Proofs.Ytpkfcbbnfhjjlaa.Ix
open Go.RowKit Go.Proofs.Ytpkfcbbnfhjjlaa.Oct Go.Proofs.Ytpkfcbbnfhjjlaa.Sf
set_option linter.unusedVariables false

theorem sdrew (w : World) : Still w w.drew := ⟨rfl, rfl, rfl, rfl⟩
theorem at_any (k : Nat) (hk : k ≤ 100000) (w : World) :
    Calls Try.prog 24 #[.int .i64 (k : Int)] w fun e w' => e = .returned (.int .i64 ((1 + 2 * k : Nat) : Int)) ∧ w' = w := by
  go_enter Try.func24, Try.ntmps24
  go_wp2
  go_ret
  exact ⟨by first | rfl | (congr 2; omega) | (simp; done), rfl⟩

/-- A body of 123 bytes of which P is written. -/
structure Pg (w : World) (g : Nat) (P : List UInt8) : Prop where
  has : Has w g 0 (full P)
  free : Free w g 0 123
  le : P.length ≤ 123
theorem Pg.start {w : World} {g : Nat} (R : Row w g (List.replicate 123 0)) : Pg w g [] := ⟨by simpa [full] using R.has, R.free 0 123, by simp⟩
theorem Pg.still {w w' : World} {g : Nat} {P : List UInt8} (h : Pg w g P) (S : Still w w') : Pg w' g P := ⟨h.has.still S, fun i hi => (S.frozen _).trans (h.free i hi), h.le⟩
theorem put_pg {w : World} {g : Nat} {P : List UInt8} (h : Pg w g P) (o s n : Nat) (ho : P.length = o) (h1 : 1 ≤ s) (h8 : s ≤ 8) (hs : o + s ≤ 123) (hn : n < 256 ^ s) :
    Calls Try.prog 23 #[.slice (some ⟨g, 0, none⟩) 123 123, .int .i64 (o : Int), .int .i64 (s : Int), .int .u64 (n : Int)] w fun e w' => e = .returned (.bool true) ∧ Pg w' g (P ++ bytesOf n s) ∧ (∀ B, B ≤ g → Below B w w') := by
  subst ho
  have hl := length_full P h.le
  have hp := put_yes g 0 123 (full P) P.length s n w (by rw [hl]; decide) h.has (by rw [hl]; exact h.free) h1 h8 (by rw [hl]; exact hs) hn
  rw [hl] at hp
  refine hp.mono fun e w' ⟨he, D⟩ => ⟨he, ⟨?_, fun i hi => (D.wrote.frz _).trans (h.free i hi), by rw [List.length_append, length_bytesOf]; exact hs⟩, fun B hB => D.wrote.below hB⟩
  have := D.has
  rwa [full_put P _ s (length_bytesOf _ _) hs] at this

set_option maxRecDepth 100000 in
set_option maxHeartbeats 1000000 in
theorem encode_no (k : UInt8) (A : Option Addr) (n c : Nat) (l : List UInt16) (w : World) (hn : l.length = n) (hm : n ≤ maxLen) (hf : ¬ Fit k l) :
    Calls Try.prog 11 #[.int .u8 (k.toNat : Int), .slice A n c] w fun e w' => e = .returned (.tuple #[.slice none 0 0, .int .i64 50]) ∧ w = w' := by
  unfold maxLen at hm
  by_cases h4 : k = 4
  · subst h4
    have hl : (61 : Int) < n := by
      have : ¬ l.length ≤ 61 := fun h => hf ⟨.inl rfl, h⟩
      omega
    clear hf
    go_enter Try.func11, Try.ntmps11
    go_wp2_with fail
    go_ret2
    exact ⟨rfl, rfl⟩
  · by_cases h5 : k = 5
    · subst h5
      have hl : (61 : Int) < n := by
        have : ¬ l.length ≤ 61 := fun h => hf ⟨.inr rfl, h⟩
        omega
      clear hf h4
      go_enter Try.func11, Try.ntmps11
      go_wp2_with fail
      go_ret2
      exact ⟨rfl, rfl⟩
    · have e4 : (((k.toNat : Nat) : Int) != 4) = true := by rw [bne_iff_ne]; intro e; exact h4 (UInt8.toNat_inj.1 (by show k.toNat = 4; omega))
      have e5 : (((k.toNat : Nat) : Int) != 5) = true := by rw [bne_iff_ne]; intro e; exact h5 (UInt8.toNat_inj.1 (by show k.toNat = 5; omega))
      clear hf h4 h5
      go_enter Try.func11, Try.ntmps11
      go_wp2_with fail
      go_ret2
      exact ⟨rfl, rfl⟩

theorem fit_kind {k : UInt8} {l : List UInt16} (h : Fit k l) : ((((k.toNat : Nat) : Int) != 4) = false ∨ ((((k.toNat : Nat) : Int) != 4) = true ∧ (((k.toNat : Nat) : Int) != 5) = false)) := by
  rcases h.1 with rfl | rfl
  · exact .inl rfl
  · exact .inr ⟨rfl, rfl⟩

set_option maxRecDepth 100000 in
set_option maxHeartbeats 1000000 in
theorem encode_yes (k : UInt8) {w : World} {A : Option Addr} {n c : Nat} {l : List UInt16} (h : Wd w A n c l) (hf : Fit k l) :
    Calls Try.prog 11 #[.int .u8 (k.toNat : Int), .slice A n c] w (SealPost w k (idxBody l)) := by
  have HD := Lib.hid h
  have HL := Lib.hid h.el
  have hn : n ≤ 61 := by have := hf.2; rw [h.el] at this; exact this
  have hnn : ¬ ((61 : Int) < (n : Int)) := by omega
  have HF := Lib.hid hf
  have hmk : (Instr.makeSlice 23 (.int .i64 123) (.int .i64 123)).run Try.prog w = .ok (.slice (some ⟨w.heap.size, 0, none⟩) 123 123) (w.alloc (.cells (vals (List.replicate 123 0)).toArray 5)) := run_make_bytes w 123 (by omega)
  have R1 := alloc_row w (List.replicate 123 0)
  have b1 := (Below.refl w.heap.size w).alloc (Nat.le_refl _) (.cells (vals (List.replicate 123 0)).toArray 5)
  generalize w.alloc (.cells (vals (List.replicate 123 0)).toArray 5) = w1 at *
  obtain ⟨g, hg⟩ : ∃ g, g = w.heap.size := ⟨_, rfl⟩
  rw [← hg] at hmk R1
  have P1 := Lib.hid (Pg.start R1)
  have HB := Lib.hid b1
  have HG := Lib.hid hg
  clear h R1 b1 hg
  rcases fit_kind hf with e4 | ⟨e4, e5⟩
  all_goals
    clear hf
    go_enter Try.func11, Try.ntmps11
    go_wp2_with fail
    refine (put_pg P1.out 0 1 n rfl (by decide) (by decide) (by decide) (by omega)).mono ?_
    rintro e w2 ⟨rfl, P2, K2⟩
    have HP2 := Lib.hid P2
    have HB2 := Lib.hid (HB.out.trans (K2 _ (by rw [HG.out]; exact Nat.le_refl _)))
    clear P2 K2
    go_wp2_with fail
    go_loopw [27] (fun i wr => ∃ j : Nat, j ≤ n ∧ i = .int .i64 (j : Int) ∧ Hid (Pg wr g (bytesOf n 1 ++ nbytes (l.take j))) ∧ Hid (Below w.heap.size w wr)) (fun i _ => n - (intOf i).toNat)
    case atStart => exact ⟨0, Nat.zero_le _, rfl, Lib.hid (by simpa [nbytes] using HP2.out), HB2⟩
    case round =>
      obtain ⟨j, hj, rfl, HP, HBW⟩ := hrel
      clear HP2 HB2
      by_cases hlt : j < n
      · obtain ⟨b, o, hA, hb, c1⟩ := (HD.out.below HBW.out).at hlt
        have HS := Lib.hid (show bytesOf n 1 ++ nbytes (l.take (j + 1)) = bytesOf n 1 ++ nbytes (l.take j) ++ bytesOf (l[j]'(by rw [HL.out]; exact hlt)).toNat 2 by
          rw [List.take_succ_eq_append_getElem (by rw [HL.out]; exact hlt), nbytes_snoc]; simp [List.append_assoc])
        have HPL := Lib.hid (show (bytesOf n 1 ++ nbytes (l.take j)).length = 1 + 2 * j by
          rw [List.length_append, length_bytesOf, length_nbytes, List.length_take, HL.out, Nat.min_eq_left (by omega)])
        generalize l[j]'(by rw [HL.out]; exact hlt) = x at c1 HS
        have hx := u16_lt x
        have hj0 : (0 : Int) ≤ (j : Int) := by omega
        have hjn : (j : Int) < (n : Int) := by omega
        subst hA
        go_wp2_with fail
        go_still_tail 8, (by kernel_rfl)
        still_call (at_any j (by omega) _)
        repeat still_step
        refine wpStill_nil ?_
        change wpList _ _ _ _ _ wr.drew
        have HP3 := Lib.hid (HP.out.still (sdrew wr))
        have HB3 := Lib.hid (show Below w.heap.size w wr.drew from HBW.out.trans ((sdrew wr).below _))
        clear HP HBW c1
        generalize wr.drew = wq at *
        go_wp2_with fail
        refine (put_pg HP3.out (1 + 2 * j) 2 x.toNat HPL.out (by decide) (by decide) (by omega) (by omega)).mono ?_
        rintro e w5 ⟨rfl, P5, K5⟩
        have HP5 := Lib.hid P5
        have HB5 := Lib.hid (HB3.out.trans (K5 _ (by rw [HG.out]; exact Nat.le_refl _)))
        clear P5 K5 HP3 HB3
        go_wp2_with fail
        go_roundw
        case rel => exact ⟨j + 1, by omega, by go_num, Lib.hid (by rw [HS.out]; exact HP5.out), HB5⟩
        case measure => simp [intOf]; omega
      · obtain rfl : j = n := by omega
        have HT := Lib.hid (show Has wr g 0 (full (idxBody l)) by
          have := HP.out.has
          rw [List.take_of_length_le (by rw [HL.out]; exact Nat.le_refl _)] at this
          unfold idxBody
          rw [HL.out]
          exact this)
        have HLB := Lib.hid (show (idxBody l).length ≤ 123 by rw [length_body, HL.out]; omega)
        have HLF := Lib.hid (length_full (idxBody l) HLB.out)
        go_wp2_with fail
        refine (seal_any k _ 123 123 (full (idxBody l)) HLF.out _ (by decide) HT.out.told).mono ?_
        rintro e w20 ⟨g2, rfl, F⟩
        rw [page_full k _ HLB.out] at F
        have HFR := Lib.hid F
        clear F
        go_wp2_with fail
        go_ret2
        exact ⟨g2, rfl, HBW.out.trans (HFR.out.below.mono HBW.out.size), Nat.le_trans HBW.out.size HFR.out.lo, HFR.out.hi, HFR.out.has, HFR.out.free, HFR.out.len, HFR.out.cap⟩
end Go.Proofs.Ytpkfcbbnfhjjlaa.Ix
