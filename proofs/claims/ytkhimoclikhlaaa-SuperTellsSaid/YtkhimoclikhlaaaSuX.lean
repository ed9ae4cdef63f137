/- The reference's Encode. -/
import Derived.Test.YtkhimoclikhlaaaSuW
import Derived.Test.YtkhimoclikhlaaaRoB
namespace Go.Proofs.Ytkhimoclikhlaaa.Su
open Go.RowKit Go.Shelf Go.Proofs.Ytkhimoclikhlaaa.Oct Go.Proofs.Ytkhimoclikhlaaa.Sf
set_option linter.unusedVariables false

def rowsTo (s : Sup) (p k n : Nat) : List UInt8 := ((List.range k).map fun i => bytesOf (nth s (p + i)) n).flatten
theorem rowsTo_next (s : Sup) (p k n : Nat) : rowsTo s p (k + 1) n = rowsTo s p k n ++ bytesOf (nth s (p + k)) n := by simp [rowsTo, List.range_succ]
theorem length_rowsTo (s : Sup) (p k n : Nat) : (rowsTo s p k n).length = k * n := by
  induction k with
  | zero => simp [rowsTo]
  | succ k ih => rw [rowsTo_next, List.length_append, ih, length_bytesOf, Nat.succ_mul]
def head12 (s : Sup) : List UInt8 := bytesOf (nth s 0) 8 ++ bytesOf (nth s 1) 4
theorem length_head12 (s : Sup) : (head12 s).length = 12 := by simp [head12, length_bytesOf]
theorem body_all (s : Sup) : ((head12 s ++ rowsTo s 2 8 4) ++ rowsTo s 10 8 8) ++ [0, 0, 0, 0, 0, 0, 0] ++ bytesOf (nth s 0) 8 = cbody (cont s) := by
  have e : ∀ p n, rowsTo s p 8 n = bytesOf (nth s (p + 0)) n ++ (bytesOf (nth s (p + 1)) n ++ (bytesOf (nth s (p + 2)) n ++ (bytesOf (nth s (p + 3)) n ++ (bytesOf (nth s (p + 4)) n ++ (bytesOf (nth s (p + 5)) n ++ (bytesOf (nth s (p + 6)) n ++ bytesOf (nth s (p + 7)) n)))))) := fun p n => by
    unfold rowsTo
    rw [show List.range 8 = [0, 1, 2, 3, 4, 5, 6, 7] from rfl]
    simp
  rw [e, e]
  unfold cbody pieces head12
  simp [cont]
theorem own_row {w : World} {base g n : Nat} {bs : List UInt8} (h : Row w g bs) (hn : bs.length = n) (hb : base ≤ g) (hm : n ≤ 1000) : Oct.Own w base (.slice (some ⟨g, 0, none⟩) n n) bs := by
  subst hn
  refine ⟨by simp [length_vals], .inr ⟨g, bs.length, (vals bs).toArray, rfl, hb, h, Nat.le_refl _, by unfold maxLen; omega, by simp [length_vals], ?_⟩⟩
  rw [Nat.mul_one]
  exact List.take_of_length_le (by simp [length_vals])
theorem row_at {w w' : World} {g : Nat} {bs : List UInt8} (h : Row w g bs) (k : w'.heap[g]? = w.heap[g]?) : Row w' g bs := by
  unfold Row at h ⊢
  rw [k, h]
theorem own_low {w : World} {base : Nat} {v : Value} {bs : List UInt8} (h : Oct.Own w base v bs) : ∀ q, v.ownBlock = some q → base ≤ q ∧ q < w.heap.size := World.ownsRow.lt h

set_option maxRecDepth 100000 in
set_option maxHeartbeats 4000000 in
theorem rencode_no (s : Sup) (hs : Ok s) (w : World) (hf : ¬ Fit s) :
    Calls Try.prog 13 #[.agg (scells s).toArray] w fun e w' => e = .returned (.tuple #[.slice none 0 0, .int .i64 60]) ∧ Below w.heap.size w w' := by
  have HR := Lib.hid (alloc_rowV w 27 (scells s))
  have HB := Lib.hid ((Below.refl w.heap.size w).alloc (Nat.le_refl _) (.cells (scells s).toArray 27))
  go_enter Try.func13, Try.ntmps13
  go_upto_region 1 with (fail)
  generalize w.alloc (.cells (scells s).toArray 27) = w1 at *
  go_wp2_with (refine wpList_load_row rfl 27 (.tmp 1) rfl w.heap.size rfl _ (scells s).toArray _ _ HR.out Try.underlying27 rfl (size_scells _) ?_)
  refine (rright_any s hs _).mono ?_
  rintro e w2 ⟨rfl, kk⟩
  rw [decide_eq_false hf]
  replace HB := Lib.hid (HB.out.trans (kk.mono HB.out.size))
  clear kk
  go_wp2_with fail
  go_ret2
  exact ⟨rfl, HB.out⟩
set_option maxRecDepth 100000 in
set_option maxHeartbeats 4000000 in
theorem rencode_yes (s : Sup) (hs : Ok s) (w : World) (hf : Fit s) :
    Calls Try.prog 13 #[.agg (scells s).toArray] w fun e w' => ∃ A c, e = .returned (.tuple #[.slice A 128 c, .int .i64 0]) ∧ Bts w' A 128 c (supPage s) ∧ Below w.heap.size w w' := by
  have HR := Lib.hid (alloc_rowV w 27 (scells s))
  have HB := Lib.hid ((Below.refl w.heap.size w).alloc (Nat.le_refl _) (.cells (scells s).toArray 27))
  go_enter Try.func13, Try.ntmps13
  go_upto_region 1 with (fail)
  generalize w.alloc (.cells (scells s).toArray 27) = w1 at *
  go_wp2_with (refine wpList_load_row rfl 27 (.tmp 1) rfl w.heap.size rfl _ (scells s).toArray _ _ HR.out Try.underlying27 rfl (size_scells _) ?_)
  refine (rright_any s hs _).mono ?_
  rintro e w2 ⟨rfl, kk⟩
  rw [decide_eq_true hf]
  replace HR := Lib.hid (HR.out.below HR.out.lt kk)
  replace HB := Lib.hid (HB.out.trans (kk.mono HB.out.size))
  clear kk
  have c0 := HR.out.cellAt (scells_at s 0 (by decide))
  rw [scell_wide _ _ (.inl rfl)] at c0
  go_wp2_with fail
  refine (bytes_lit _ 8 (nth s 0) 8 rfl rfl _ (hs.lt 0) (by omega)).mono ?_
  rintro e w3 ⟨g, rfl, hg, R1, kk⟩
  have HO := Lib.hid (own_row R1 (length_bytesOf 8 (nth s 0)) (base := w.heap.size + 1) (Nat.le_trans HR.out.lt hg) (by omega))
  replace HR := Lib.hid (HR.out.below HR.out.lt kk)
  replace HB := Lib.hid (HB.out.trans (kk.mono HB.out.size))
  clear kk hg R1 c0
  have c1 := HR.out.cellAt (scells_at s 1 (by decide))
  rw [scell_small _ _ (by decide) (by decide)] at c1
  have hsm := hs.small 1 (by decide) (by decide)
  go_wp2_with fail
  refine (bytes_lit _ 4 (nth s 1) 4 rfl rfl _ (hs.lt 1) (by omega)).mono ?_
  rintro e w4 ⟨g2, rfl, hg2, R2, kk⟩
  replace HO := Lib.hid (HO.out.kept kk (Nat.le_refl _))
  replace HR := Lib.hid (HR.out.below HR.out.lt kk)
  replace HB := Lib.hid (HB.out.trans (kk.mono HB.out.size))
  obtain ⟨v5, w5, hr5, O5, b5⟩ := run_append_bytes w4 28 (w.heap.size + 1) _ _ (bytesOf (nth s 1) 4) HO.out (some ⟨g2, 0, none⟩) 4 4 (length_bytesOf _ _) R2.has.told (fun e => by cases e) (by rw [length_bytesOf]; omega) HR.out.lt
  replace HO := Lib.hid (show Oct.Own w5 (w.heap.size + 1) v5 (head12 s) from O5)
  replace HR := Lib.hid (HR.out.below (Nat.lt_succ_self _) b5)
  replace HB := Lib.hid (HB.out.trans (b5.mono (Nat.le_succ _)))
  clear kk hg2 R2 c1 hsm O5 b5
  go_wp2_with (at_builtin; refine wpList_append_run rfl (.tmp 32) (.tmp 33) 28 rfl _ _ rfl rfl _ w5 hr5 ?_)
  clear hr5
  go_loopw [4, 8] (fun v i wr => ∃ k : Nat, k ≤ 8 ∧ i = .int .i64 (k : Int) ∧ Hid (Oct.Own wr (w.heap.size + 1) v (head12 s ++ rowsTo s 2 k 4)) ∧ Hid (RowV wr w.heap.size 27 (scells s)) ∧ Hid (Below w.heap.size w wr)) (fun _ i _ => 8 - (intOf i).toNat)
  case atStart => exact ⟨0, by omega, rfl, Lib.hid (by rw [show rowsTo s 2 0 4 = [] from rfl, List.append_nil]; exact HO.out), HR, HB⟩
  case round =>
    obtain ⟨k, hk, rfl, HO', HR', HB'⟩ := hrel
    clear HO HR HB
    have HO := HO'
    have HR := HR'
    have HB := HB'
    clear HO' HR' HB'
    by_cases hlt : k < 8
    case pos =>
      have hki : (k : Int) < 8 := by omega
      have ck := HR.out.cellAt (scells_at s (2 + k) (by omega))
      rw [scell_small _ _ (by omega) (by omega)] at ck
      have hsm := hs.small (2 + k) (by omega) (by omega)
      go_wp2_with fail
      refine (bytes_lit _ 4 (nth s (2 + k)) 4 rfl rfl _ (hs.lt _) (by omega)).mono ?_
      rintro e w6 ⟨g3, rfl, hg3, R3, kk⟩
      replace HO := Lib.hid (HO.out.kept kk (Nat.le_refl _))
      replace HR := Lib.hid (HR.out.below HR.out.lt kk)
      replace HB := Lib.hid (HB.out.trans (kk.mono HB.out.size))
      obtain ⟨v7, w7, hr7, O7, b7⟩ := run_append_bytes w6 28 (w.heap.size + 1) _ _ (bytesOf (nth s (2 + k)) 4) HO.out (some ⟨g3, 0, none⟩) 4 4 (length_bytesOf _ _) R3.has.told (fun e => by cases e) (by rw [List.length_append, length_head12, length_rowsTo]; omega) HR.out.lt
      rw [List.append_assoc, ← rowsTo_next] at O7
      replace HO := Lib.hid O7
      replace HR := Lib.hid (HR.out.below (Nat.lt_succ_self _) b7)
      replace HB := Lib.hid (HB.out.trans (b7.mono (Nat.le_succ _)))
      clear kk hg3 R3 ck hsm O7 b7
      go_wp2_with (at_builtin; refine wpList_append_run rfl (.tmp 48) (.tmp 49) 28 rfl _ _ rfl rfl _ w7 hr7 ?_)
      go_roundw
      case rel => exact ⟨k + 1, by omega, by go_num, HO, HR, HB⟩
      case measure => simp [intOf]; omega
    case neg =>
      obtain rfl : k = 8 := by omega
      rw [show ((8 : Nat) : Int) = 8 from rfl]
      go_wp2_with fail
      go_loopw [4, 11] (fun v i wr => ∃ k : Nat, k ≤ 8 ∧ i = .int .i64 (k : Int) ∧ Hid (Oct.Own wr (w.heap.size + 1) v ((head12 s ++ rowsTo s 2 8 4) ++ rowsTo s 10 k 8)) ∧ Hid (RowV wr w.heap.size 27 (scells s)) ∧ Hid (Below w.heap.size w wr)) (fun _ i _ => 8 - (intOf i).toNat)
      case atStart => exact ⟨0, by omega, rfl, Lib.hid (by rw [show rowsTo s 10 0 8 = [] from rfl, List.append_nil]; exact HO.out), HR, HB⟩
      case round =>
        obtain ⟨k, hk, rfl, HO', HR', HB'⟩ := hrel
        clear HO HR HB
        have HO := HO'
        have HR := HR'
        have HB := HB'
        clear HO' HR' HB'
        by_cases hlt : k < 8
        case pos =>
          have hki : (k : Int) < 8 := by omega
          have ck := HR.out.cellAt (scells_at s (10 + k) (by omega))
          rw [scell_wide _ _ (.inr (by omega))] at ck
          go_wp2_with fail
          refine (bytes_lit _ 8 (nth s (10 + k)) 8 rfl rfl _ (hs.lt _) (by omega)).mono ?_
          rintro e w6 ⟨g3, rfl, hg3, R3, kk⟩
          replace HO := Lib.hid (HO.out.kept kk (Nat.le_refl _))
          replace HR := Lib.hid (HR.out.below HR.out.lt kk)
          replace HB := Lib.hid (HB.out.trans (kk.mono HB.out.size))
          obtain ⟨v7, w7, hr7, O7, b7⟩ := run_append_bytes w6 28 (w.heap.size + 1) _ _ (bytesOf (nth s (10 + k)) 8) HO.out (some ⟨g3, 0, none⟩) 8 8 (length_bytesOf _ _) R3.has.told (fun e => by cases e) (by rw [List.length_append, List.length_append, length_head12, length_rowsTo, length_rowsTo]; omega) HR.out.lt
          rw [List.append_assoc (head12 s ++ rowsTo s 2 8 4), ← rowsTo_next] at O7
          replace HO := Lib.hid O7
          replace HR := Lib.hid (HR.out.below (Nat.lt_succ_self _) b7)
          replace HB := Lib.hid (HB.out.trans (b7.mono (Nat.le_succ _)))
          clear kk hg3 R3 ck O7 b7
          go_wp2_with (at_builtin; refine wpList_append_run rfl (.tmp 63) (.tmp 64) 28 rfl _ _ rfl rfl _ w7 hr7 ?_)
          go_roundw
          case rel => exact ⟨k + 1, by omega, by go_num, HO, HR, HB⟩
          case measure => simp [intOf]; omega
        case neg =>
          obtain rfl : k = 8 := by omega
          have c0 := HR.out.cellAt (scells_at s 0 (by decide))
          rw [scell_wide _ _ (.inl rfl)] at c0
          go_wp2_with fail
          refine (bytes_lit _ 8 (nth s 0) 8 rfl rfl _ (hs.lt 0) (by omega)).mono ?_
          rintro e w6 ⟨g3, rfl, hg3, R3, kk⟩
          have hlow := own_low HO.out
          replace HO := Lib.hid (HO.out.kept kk (Nat.le_refl _))
          replace HR := Lib.hid (HR.out.below HR.out.lt kk)
          replace HB := Lib.hid (HB.out.trans (kk.mono HB.out.size))
          clear kk c0
          have ka := (Below.refl w6.heap.size w6).alloc (Nat.le_refl _) (.cells #[.int .u8 0, .int .u8 0, .int .u8 0, .int .u8 0, .int .u8 0, .int .u8 0, .int .u8 0] 5)
          have Z7 := (show Row (w6.alloc (.cells #[.int .u8 0, .int .u8 0, .int .u8 0, .int .u8 0, .int .u8 0, .int .u8 0, .int .u8 0] 5)) w6.heap.size [0, 0, 0, 0, 0, 0, 0] from alloc_row w6 [0, 0, 0, 0, 0, 0, 0])
          have R3' := row_at R3 (ka.block g3 R3.lt)
          replace HO := Lib.hid (HO.out.kept ka (Nat.le_refl _))
          replace HR := Lib.hid (HR.out.below HR.out.lt ka)
          replace HB := Lib.hid (HB.out.trans (ka.mono HB.out.size))
          obtain ⟨v7, w7, hr7, O7, b7, e7⟩ := run_append_bytes2 _ 28 (w.heap.size + 1) _ _ [0, 0, 0, 0, 0, 0, 0] HO.out w6.heap.size 7 7 rfl Z7.has (by rw [List.length_append, List.length_append, length_head12, length_rowsTo, length_rowsTo]; omega) HR.out.lt
          have R7 := row_at R3' (e7 g3 R3'.lt (fun e => by have := (hlow g3 e).2; omega))
          replace HO := Lib.hid O7
          replace HR := Lib.hid (HR.out.below (Nat.lt_succ_self _) b7)
          replace HB := Lib.hid (HB.out.trans (b7.mono (Nat.le_succ _)))
          obtain ⟨v8, w8, hr8, O8, b8⟩ := run_append_bytes w7 28 (w.heap.size + 1) _ _ (bytesOf (nth s 0) 8) HO.out (some ⟨g3, 0, none⟩) 8 8 (length_bytesOf _ _) R7.has.told (fun e => by cases e) (by rw [List.length_append, List.length_append, List.length_append, length_head12, length_rowsTo, length_rowsTo]; simp) HR.out.lt
          rw [body_all] at O8
          replace HB := Lib.hid (HB.out.trans (b8.mono (Nat.le_succ _)))
          obtain ⟨a9, c9, rfl, T9, h9, h10, h11⟩ := O8.slice
          rw [length_cbody] at hr8 h9
          obtain ⟨g9, rfl, -, -, -⟩ := h11 (fun e => by have := length_cbody (cont s); rw [e] at this; cases this)
          have HT := Lib.hid T9
          clear ka Z7 R3 R3' O7 b7 e7 R7 O8 b8 T9 h9 h10 h11 hlow hg3 HO HR
          go_wp2_with (first | (at_builtin; refine wpList_append_run rfl (.tmp 72) (.tmp 73) 28 rfl _ _ rfl rfl _ w7 hr7 ?_) | (at_builtin; refine wpList_append_run rfl (.tmp 75) (.tmp 76) 28 rfl _ _ rfl rfl _ w8 hr8 ?_))
          refine (show Calls Try.prog 29 #[.int .u8 6, .slice (some ⟨g9, 0, none⟩) 123 c9] w8 _ from rseal_any 6 (some ⟨g9, 0, none⟩) 123 c9 (cbody (cont s)) (length_cbody _) w8 (by omega) HT.out (fun e => by cases e)).mono ?_
          rintro e w9 ⟨v9, rfl, O9, b9⟩
          obtain ⟨a', c', rfl, hT', hl', hm', _⟩ := O9.slice
          have hlp : (page 6 (cbody (cont s))).length = 128 := length_supPage s
          rw [hlp] at hl' ⊢
          have HT9 := Lib.hid (show Bts w9 a' 128 c' (supPage s) from ⟨hlp, hT', hl', hm'⟩)
          replace HB := Lib.hid (HB.out.trans (b9.mono HB.out.size))
          clear O9 b9 hT' hl' hm' hlp
          go_wp2_with fail
          go_ret2
          exact ⟨_, _, rfl, HT9.out, HB.out⟩
end Go.Proofs.Ytkhimoclikhlaaa.Su
