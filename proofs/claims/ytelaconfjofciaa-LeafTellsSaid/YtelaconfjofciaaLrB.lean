/- The reference's Encode. -/
import Derived.Test.YtelaconfjofciaaLrA
namespace Go.Proofs.Ytelaconfjofciaa.Lf
open Go.RowKit Go.Proofs.Ytelaconfjofciaa.Oct
set_option linter.unusedVariables false

set_option maxRecDepth 100000 in
set_option maxHeartbeats 1000000 in
theorem rencode_no (l : Bool) {w : World} {A B : Option Addr} {n c m d : Nat} {ks vs : List UInt64} (h : Nd w A n c B m d ks vs) (hn : n ≤ 1000) (hm : m ≤ 1000) (hf : ¬ Fit l ks vs) :
    Calls Try.prog 13 #[.agg #[.bool l, .slice A n c, .slice B m d]] w fun e w' => e = .returned (.tuple #[.slice none 0 0, .int .i64 30]) ∧ Below w.heap.size w w' := by
  have HD := Lib.hid (h.boxed (.cells #[.bool l, .slice A n c, .slice B m d] 24))
  have BB := Lib.hid ((Below.refl w.heap.size w).alloc (Nat.le_refl _) (.cells #[.bool l, .slice A n c, .slice B m d] 24))
  have HF := Lib.hid hf
  clear h hf
  go_enter Try.func13, Try.ntmps13
  go_wp2_with fail
  refine (rright_any l HD.out hn hm).mono ?_
  rintro e w2 ⟨rfl, B2⟩
  rw [decide_eq_false HF.out]
  have BB2 := Lib.hid (BB.out.trans (B2.mono BB.out.size))
  clear B2
  go_wp2_with fail
  go_ret2
  exact ⟨rfl, BB2.out⟩

theorem byte_one (n : Nat) (h : n ≤ 7) : ∃ k : UInt8, k.toNat = n ∧ bytesOf n 1 = [k] := ⟨UInt8.ofNat n, by simp; omega, by simp [bytesOf, Nat.mod_eq_of_lt (by omega : n < 256)]⟩
theorem own_row1 (w : World) (k : UInt8) (n : Nat) (h : k.toNat = n) : Own (w.alloc (.cells #[.int .u8 (n : Int)] 5)) w.heap.size (.slice (some ⟨w.heap.size, 0, none⟩) 1 1) [k] := by
  subst h
  exact own_one w k
theorem pairs_next (ks vs : List UInt64) (h : vs.length = ks.length) (z : Nat) (hz : z < ks.length) (P : List UInt8) :
    P ++ pairs (ks.take z) (vs.take z) ++ bytesOf (ks[z]'hz).toNat 8 ++ bytesOf (vs[z]'(by omega)).toNat 8 = P ++ pairs (ks.take (z + 1)) (vs.take (z + 1)) := by
  rw [List.take_succ_eq_append_getElem hz, List.take_succ_eq_append_getElem (by omega : z < vs.length), pairs_snoc _ _ (by simp; omega)]
  simp [List.append_assoc]

theorem run_append_bytes2 (w : World) (ty : TypeId) (base : Nat) (v : Value) (xs ys : List UInt8) (hown : Own w base v xs) (g len cap : Nat) (hlen : ys.length = len) (hT : Has w g 0 ys)
    (hsz : xs.length + len ≤ 140737488355328) (hbase : base ≤ w.heap.size) :
    ∃ v' w', (Builtin.append_ #[25, 25] ty #[v, .slice (some ⟨g, 0, none⟩) len cap]).run Try.prog w = .ok v' w' ∧ Own w' base v' (xs ++ ys) ∧ Below base w w' ∧ ∀ k, k < w.heap.size → v.ownBlock ≠ some k → w'.heap[k]? = w.heap[k]? := by
  obtain ⟨i0, hi, hz0, hz1, hz2⟩ := info_parts byte_info
  have hnews : ∀ j u, (vals ys)[j]? = some u → w.cell? ((⟨g, 0, none⟩ : Addr).add j) = some u := fun j u hj => by
    have hjl : j < ys.length := by
      rcases Nat.lt_or_ge j ys.length with h | h
      · exact h
      · rw [List.getElem?_eq_none (by rw [length_vals]; exact h)] at hj; cases hj
    have hv : u = .int .u8 (ys[j].toNat : Int) := by simpa [vals, hjl] using hj.symm
    rw [hv, add_plain]
    exact hT j hjl
  obtain ⟨v', w', hr, ho, hg, _⟩ := run_append_own (P := Try.prog) w base 25 ty 5 i0 (.int .u8 0) 1 1 Try.underlying25 hi hz0 hz1 hz2 rfl (by omega) v xs.length (vals xs) hown ⟨g, 0, none⟩ len cap (vals ys)
    (by rw [length_vals, hlen, Nat.mul_one]) hnews (fun u hu => by simp [vals] at hu; obtain ⟨c, _, rfl⟩ := hu; rfl) (by unfold maxLen; omega) (by omega) hbase
  refine ⟨v', w', hr, ?_, ⟨hg.os, hg.tape, hg.output, hg.size, fun k hk => hg.block k (by omega) (fun e => ?_)⟩, fun k hk hne => hg.block k hk (fun e => hne e.symm)⟩
  · unfold Own
    rw [List.length_append, hlen, show vals (xs ++ ys) = vals xs ++ vals ys by simp [vals]]
    exact ho
  · have := (World.ownsRow.lt hown k e.symm).1
    omega

def REnc (w : World) (bs : List UInt8) (e : Ending) (w' : World) : Prop := ∃ v base, e = .returned (.tuple #[v, .int .i64 0]) ∧ Own w' base v bs ∧ w.heap.size ≤ base ∧ Below w.heap.size w w'

set_option maxRecDepth 100000 in
set_option maxHeartbeats 2000000 in
theorem rencode_yes (l : Bool) {w : World} {A B : Option Addr} {n c m d : Nat} {ks vs : List UInt64} (h : Nd w A n c B m d ks vs) (hf : Fit l ks vs) :
    Calls Try.prog 13 #[.agg #[.bool l, .slice A n c, .slice B m d]] w (REnc w (nodePage l ks vs)) := by
  have hn : n ≤ 7 := by have := (fit_lens hf).1; rw [h.kl] at this; exact this
  have hmn : m = n := by have := (fit_lens hf).2; rw [h.kl, h.vl] at this; exact this
  subst hmn
  have HD := Lib.hid (h.boxed (.cells #[.bool l, .slice A m c, .slice B m d] 24))
  have BB := Lib.hid ((Below.refl w.heap.size w).alloc (Nat.le_refl _) (.cells #[.bool l, .slice A m c, .slice B m d] 24))
  have BX := Lib.hid (var_new' w l A m c B m d)
  have hlt : w.heap.size < (w.alloc (.cells #[.bool l, .slice A m c, .slice B m d] 24)).heap.size := by simp
  have HF := Lib.hid hf
  clear h hf
  go_enter Try.func13, Try.ntmps13
  go_wp2_with fail
  refine (rright_any l HD.out (by omega) (by omega)).mono ?_
  rintro e w2 ⟨rfl, B2⟩
  rw [decide_eq_true HF.out]
  have e0 := (B2.cell (p := ⟨w.heap.size, 0, none⟩) hlt).trans BX.out.1
  have e1 := (B2.cell (p := ⟨w.heap.size, 1, none⟩) hlt).trans BX.out.2.1
  have e2 := (B2.cell (p := ⟨w.heap.size, 2, none⟩) hlt).trans BX.out.2.2
  have HD2 := Lib.hid (HD.out.below B2)
  have BB2 := Lib.hid (BB.out.trans (B2.mono BB.out.size))
  have hlt2 : w.heap.size < w2.heap.size := Nat.lt_of_lt_of_le hlt B2.size
  obtain ⟨k1, hk1, hkb⟩ := byte_one m hn
  have HK := Lib.hid (And.intro hk1 hkb)
  clear B2 HD BB BX hlt hk1 hkb
  generalize w.alloc (.cells #[.bool l, .slice A m c, .slice B m d] 24) = w1 at *
  go_upto_region 4 with (fail)
  have O3 := own_row1 w2 k1 m HK.out.1
  have A3 := (Below.refl w2.heap.size w2).alloc (Nat.le_refl _) (.cells #[.int .u8 (m : Int)] 5)
  obtain ⟨base, hbase⟩ : ∃ x, x = w2.heap.size := ⟨_, rfl⟩
  rw [← hbase] at O3 A3 hlt2
  generalize hw3 : w2.alloc (.cells #[.int .u8 (m : Int)] 5) = w3 at *
  have HO3 := Lib.hid (show Own w3 base (.slice (some ⟨w2.heap.size, 0, none⟩) 1 1) (bytesOf m 1 ++ pairs (ks.take 0) (vs.take 0)) by
    rw [HK.out.2, ← hbase]; simpa [pairs] using O3)
  have HA3 := Lib.hid A3
  have HBS := Lib.hid hbase
  clear O3 A3 hw3 hbase
  go_wp2_with fail
  go_loopw [4, 5] (fun v i wr => ∃ z : Nat, z ≤ m ∧ i = .int .i64 (z : Int) ∧ Hid (Own wr base v (bytesOf m 1 ++ pairs (ks.take z) (vs.take z))) ∧ Hid (Below base w2 wr)) (fun _ i _ => m - (intOf i).toNat)
  case atStart => exact ⟨0, Nat.zero_le _, rfl, HO3, HA3⟩
  case round =>
    obtain ⟨z, hz, rfl, HO, HB⟩ := hrel
    have f0 := (HB.out.cell (p := ⟨w.heap.size, 0, none⟩) hlt2).trans e0
    have f1 := (HB.out.cell (p := ⟨w.heap.size, 1, none⟩) hlt2).trans e1
    have f2 := (HB.out.cell (p := ⟨w.heap.size, 2, none⟩) hlt2).trans e2
    have HDR := Lib.hid (HD2.out.below (HB.out.mono (by rw [HBS.out]; exact Nat.le_refl _)))
    by_cases hltz : z < m
    · obtain ⟨b, o, rfl, hH⟩ := HDR.out.ks.has (by rw [HDR.out.kl]; omega)
      obtain ⟨b2, o2, rfl, hH2⟩ := HDR.out.vs.has (by rw [HDR.out.vl]; omega)
      have hkz : z < ks.length := by rw [HDR.out.kl]; exact hltz
      have hvz : z < vs.length := by rw [HDR.out.vl]; exact hltz
      have c1 := hH z hkz
      have c2 := hH2 z hvz
      have HNX := Lib.hid (pairs_next ks vs (by rw [HDR.out.kl, HDR.out.vl]) z hkz (bytesOf m 1))
      have hPL := Lib.hid (show (bytesOf m 1 ++ pairs (ks.take z) (vs.take z)).length ≤ 200 by rw [List.length_append, length_bytesOf, length_pairs _ _ (by simp; omega)]; simp; omega)
      have hxl := u64_lt ks[z]
      have hyl := u64_lt vs[z]
      generalize ks[z]'hkz = x at c1 HNX hxl
      generalize vs[z]'hvz = y at c2 HNX hyl
      generalize bytesOf m 1 ++ pairs (ks.take z) (vs.take z) = P at HNX hPL HO
      have i2 : (z : Int) < (m : Int) := by omega
      have hbw : base ≤ wr.heap.size := Nat.le_trans (by rw [HBS.out]; exact Nat.le_refl _) HB.out.size
      have hlw : w.heap.size < wr.heap.size := by omega
      have hb2 : b2 < wr.heap.size := World.block_lt_of_cell? wr _ c2
      clear hH hH2
      go_wp2_with fail
      refine (bytes_lit _ 8 x.toNat 8 rfl rfl _ hxl (by omega)).mono ?_
      rintro e w4 ⟨g1, rfl, hg1, R1, B1⟩
      have p0 := (B1.cell (p := ⟨w.heap.size, 2, none⟩) hlw).trans f2
      have p1 := (B1.cell (p := ⟨w.heap.size, 1, none⟩) hlw).trans f1
      have p2 := (B1.cell (p := ⟨b2, o2 + z, none⟩) hb2).trans c2
      have HR1 := Lib.hid R1
      have HB1 := Lib.hid B1
      clear R1 B1 c1 c2 f0 f1 f2
      go_wp2_with fail
      refine (bytes_lit _ 8 y.toNat 8 rfl rfl _ hyl (by omega)).mono ?_
      rintro e w5 ⟨g2, rfl, hg2, R2, B2⟩
      have O5 := (HO.out.kept HB1.out (Nat.le_refl _)).kept B2 (Nat.le_refl _)
      have hb5 : base ≤ w5.heap.size := Nat.le_trans hbw (Nat.le_trans HB1.out.size B2.size)
      obtain ⟨v6, w6, hr1, O6, B6, K6⟩ := run_append_bytes2 w5 25 base u4 P (bytesOf x.toNat 8) O5 g1 8 8 (length_bytesOf 8 x.toNat) (HR1.out.has.below (Row.lt HR1.out) B2) (by have := hPL.out; omega) hb5
      have R6 : Has w6 g2 0 (bytesOf y.toNat 8) := fun i hi => (World.cell?_of_block (K6 g2 (Row.lt R2) (fun e => by have := (World.ownsRow.lt HO.out g2 e).2; have := HB1.out.size; omega))).trans (R2.has i hi)
      obtain ⟨v7, w7, hr2, O7, B7, _⟩ := run_append_bytes2 w6 25 base v6 (P ++ bytesOf x.toNat 8) (bytesOf y.toNat 8) O6 g2 8 8 (length_bytesOf 8 y.toNat) R6 (by rw [List.length_append, length_bytesOf]; have := hPL.out; omega) (Nat.le_trans hb5 B6.size)
      rw [HNX.out] at O7
      have HO7 := Lib.hid O7
      have HB7 := Lib.hid (((((HB.out.trans (HB1.out.mono hbw)).trans (B2.mono (Nat.le_trans hbw HB1.out.size))).trans B6)).trans B7)
      clear O5 O6 O7 R6 K6 B6 B7 R2 B2 p0 p1 p2
      go_wp2_with (first | (at_builtin; refine wpList_append_run rfl (.tmp 43) (.tmp 44) _ rfl _ _ rfl rfl v6 w6 hr1 ?_) | (at_builtin; refine wpList_append_run rfl (.tmp 45) (.tmp 46) _ rfl _ _ rfl rfl v7 w7 hr2 ?_))
      go_roundw
      case rel => exact ⟨z + 1, by omega, by go_num, HO7, HB7⟩
      case measure => simp [intOf]; omega
    · obtain rfl : z = m := by omega
      have hO := HO.out
      rw [List.take_of_length_le (by rw [HD2.out.kl]; exact Nat.le_refl _), List.take_of_length_le (by rw [HD2.out.vl]; exact Nat.le_refl _), show bytesOf z 1 ++ pairs ks vs = nodeBody ks vs by unfold nodeBody; rw [HD2.out.kl]] at hO
      obtain ⟨a, cp, rfl, hT, hcp, hcm, hq⟩ := hO.slice
      have hNL : (nodeBody ks vs).length = 1 + 16 * z := by rw [length_nodeBody ks vs HF.out.2.1, HD2.out.kl]
      obtain ⟨q, rfl, _⟩ := hq (fun h => by rw [h] at hNL; simp at hNL; omega)
      have HNL := Lib.hid hNL
      have HTT := Lib.hid hT
      have YB := Lib.hid (BB2.out.trans (HB.out.mono (Nat.le_of_lt hlt2)))
      have HBB := Lib.hid (show w.heap.size ≤ wr.heap.size from YB.out.size)
      rw [hNL] at hcp ⊢
      clear hO hT hq hNL HO HB
      cases l with
      | true =>
        go_wp2_with fail
        refine (rseal_any 1 _ (1 + 16 * z) cp (nodeBody ks vs) HNL.out _ (by omega) HTT.out (fun h => nomatch h)).mono ?_
        rintro e w8 ⟨v, rfl, O8, B8⟩
        go_wp2_with fail
        go_ret2
        exact ⟨v, _, rfl, O8, HBB.out, YB.out.trans (B8.mono HBB.out)⟩
      | false =>
        go_wp2_with fail
        refine (rseal_any 2 _ (1 + 16 * z) cp (nodeBody ks vs) HNL.out _ (by omega) HTT.out (fun h => nomatch h)).mono ?_
        rintro e w8 ⟨v, rfl, O8, B8⟩
        go_wp2_with fail
        go_ret2
        exact ⟨v, _, rfl, O8, HBB.out, YB.out.trans (B8.mono HBB.out)⟩
end Go.Proofs.Ytelaconfjofciaa.Lf
