/- Contract: each with the closure of Decode; list. -/
import Derived.Test.YtngigpciipdogaaLfE
namespace Go.Proofs.Ytngigpciipdogaa.Lf
open Go.RowKit Go.Proofs.Ytngigpciipdogaa.Oct
set_option linter.unusedVariables false

/-- The keys and values that stand in a body. -/
def kAt (bs : List UInt8) (j : Nat) : UInt64 := UInt64.ofNat (num ((bs.drop (1 + 16 * j)).take 8))
def vAt (bs : List UInt8) (j : Nat) : UInt64 := UInt64.ofNat (num ((bs.drop (9 + 16 * j)).take 8))
def cAt (bs : List UInt8) : UInt64 := UInt64.ofNat (num ((bs.drop 0).take 1))
def upTo (f : Nat → UInt64) (k : Nat) : List UInt64 := (List.range 7).map fun j => if j < k then f j else 0
theorem length_upTo (f : Nat → UInt64) (k : Nat) : (upTo f k).length = 7 := by simp [upTo]
theorem upTo_zero (f : Nat → UInt64) : upTo f 0 = List.replicate 7 0 := rfl
theorem upTo_set (f : Nat → UInt64) (k : Nat) (hk : k < 7) : (upTo f k).set k (f k) = upTo f (k + 1) := by
  apply List.ext_getElem
  · simp [upTo]
  · intro i h1 h2
    rw [List.getElem_set]
    by_cases h : k = i
    · subst h
      simp [upTo]
    · simp only [h, if_false, upTo, List.getElem_map, List.getElem_range]
      by_cases h3 : i < k
      · rw [if_pos h3, if_pos (by omega)]
      · rw [if_neg h3, if_neg (by omega)]
theorem upTo_seven (f : Nat → UInt64) (n : Nat) (hn : n ≤ 7) : (upTo f 7).take n = (List.range n).map f := by
  apply List.ext_getElem
  · simp [upTo]; omega
  · intro i h1 h2
    simp at h1 h2
    simp [upTo]
    omega
theorem content_setk (c : UInt64) (ks vs : List UInt64) (h : ks.length = 7) (i : Nat) (hi : i < 7) (v : UInt64) : (content c ks vs).set (1 + i) v = content c (ks.set i v) vs := by
  rw [Nat.add_comm]
  simp only [content, List.set_cons_succ]
  rw [List.set_append_left _ _ (by omega)]
theorem content_setv (c : UInt64) (ks vs : List UInt64) (h : ks.length = 7) (i : Nat) (hi : i < 7) (v : UInt64) : (content c ks vs).set (8 + i) v = content c ks (vs.set i v) := by
  rw [show 8 + i = (7 + i) + 1 by omega]
  simp only [content, List.set_cons_succ]
  rw [List.set_append_right _ _ (by omega), h, show 7 + i - 7 = i by omega]

theorem Book.other {w : World} {bb ab g q p : Nat} {bs : List UInt8} (h : Book w bb ab g p bs) (i : Nat) (v : Value) (h1 : q ≠ bb) (h2 : q ≠ ab) (h3 : q ≠ g) : Book (w.setCell ⟨q, i, none⟩ v) bb ab g p bs := by
  have hc : ∀ b j, q ≠ b → (w.setCell ⟨q, i, none⟩ v).cell? ⟨b, j, none⟩ = w.cell? ⟨b, j, none⟩ := fun b j hb => World.cell?_setCell_other _ _ _ _ (fun e => hb (Addr.mk.inj e).1)
  exact ⟨(hc _ _ h1).trans h.cb, (hc _ _ h2).trans h.ca, by simp [h.fa], fun j hj => (hc _ _ h3).trans (h.has j hj), h.len, h.n2, h.n3⟩
theorem Book.still {w w' : World} {bb ab g p : Nat} {bs : List UInt8} (h : Book w bb ab g p bs) (S : Still w w') : Book w' bb ab g p bs :=
  ⟨(S.cell _).trans h.cb, (S.cell _).trans h.ca, (S.frozen _).trans h.fa, h.has.still S, h.len, h.n2, h.n3⟩

theorem dec_c {w : World} {bb ab g : Nat} {bs : List UInt8} (h : Book w bb ab g 0 bs) (x : Value) :
    Calls Try.prog 20 #[x, .int .i64 1, .pointer (some ⟨bb, 0, none⟩), .pointer (some ⟨ab, 0, none⟩)] w fun e w' => e = .returned (.int .u64 ((cAt bs).toNat : Int)) ∧ Book w' bb ab g 1 bs ∧ Apart w w' ab ab :=
  dec1 h x 1 (by omega) (by omega) (by omega)
theorem dec_k {w : World} {bb ab g k : Nat} {bs : List UInt8} (h : Book w bb ab g (1 + 16 * k) bs) (hk : k < 7) (x : Value) :
    Calls Try.prog 20 #[x, .int .i64 8, .pointer (some ⟨bb, 0, none⟩), .pointer (some ⟨ab, 0, none⟩)] w fun e w' => e = .returned (.int .u64 ((kAt bs k).toNat : Int)) ∧ Book w' bb ab g (9 + 16 * k) bs ∧ Apart w w' ab ab := by
  have := dec1 h x 8 (by omega) (by omega) (by omega)
  rwa [show 1 + 16 * k + 8 = 9 + 16 * k by omega] at this
theorem dec_v {w : World} {bb ab g k : Nat} {bs : List UInt8} (h : Book w bb ab g (9 + 16 * k) bs) (hk : k < 7) (x : Value) :
    Calls Try.prog 20 #[x, .int .i64 8, .pointer (some ⟨bb, 0, none⟩), .pointer (some ⟨ab, 0, none⟩)] w fun e w' => e = .returned (.int .u64 ((vAt bs k).toNat : Int)) ∧ Book w' bb ab g (1 + 16 * (k + 1)) bs ∧ Apart w w' ab ab := by
  have := dec1 h x 8 (by omega) (by omega) (by omega)
  rwa [show 9 + 16 * k + 8 = 1 + 16 * (k + 1) by omega] at this

theorem Apart.book {w w' : World} {q ab q' bb g p : Nat} {bs : List UInt8} (h : Apart w w' q q') (H : Book w bb ab g p bs) (h1 : q ≠ bb) (h2 : q ≠ ab) (h3 : q ≠ g) (k1 : q' ≠ bb) (k2 : q' ≠ ab) (k3 : q' ≠ g) : Book w' bb ab g p bs :=
  ⟨(World.cell?_of_block (h.block bb (Ne.symm h1) (Ne.symm k1))).trans H.cb, (World.cell?_of_block (h.block ab (Ne.symm h2) (Ne.symm k2))).trans H.ca, (World.frozen?_of_block (a := ⟨ab, 0, none⟩) (h.block ab (Ne.symm h2) (Ne.symm k2))).trans H.fa, fun i hi => (World.cell?_of_block (h.block g (Ne.symm h3) (Ne.symm k3))).trans (H.has i hi), H.len, H.n2, H.n3⟩
theorem Apart.refl (w : World) (p q : Nat) : Apart w w p q := ⟨rfl, rfl, rfl, rfl, fun _ _ _ => rfl⟩
theorem Apart.trans {w w' w'' : World} {p q : Nat} (h : Apart w w' p q) (k : Apart w' w'' p q) : Apart w w'' p q := ⟨k.os.trans h.os, k.tape.trans h.tape, k.output.trans h.output, k.size.trans h.size, fun i h1 h2 => (k.block i h1 h2).trans (h.block i h1 h2)⟩
theorem Apart.wide {w w' : World} {p q : Nat} (h : Apart w w' q q) : Apart w w' p q := ⟨h.os, h.tape, h.output, h.size, fun k _ hk => h.block k hk hk⟩
theorem Apart.set {w w' : World} {p q : Nat} (h : Apart w w' p q) (i : Nat) (v : Value) : Apart w (w'.setCell ⟨p, i, none⟩ v) p q := ⟨h.os, h.tape, h.output, by simp [h.size], fun k hk hk2 => (heap_setCell_other _ _ _ _ hk).trans (h.block k hk hk2)⟩
theorem Apart.still {w w' w'' : World} {p q : Nat} (h : Apart w w' p q) (S : Still w' w'') : Apart w w'' p q := ⟨S.os.trans h.os, S.tape.trans h.tape, S.output.trans h.output, (by rw [S.heap]; exact h.size), fun k hk hk2 => (by rw [S.heap]; exact h.block k hk hk2)⟩

set_option maxRecDepth 100000 in
set_option maxHeartbeats 1000000 in
theorem each_dec {w : World} {bb ab g q : Nat} {bs : List UInt8} (h : Book w bb ab g 0 bs) (R : RowN w q 42 (content 0 (upTo (kAt bs) 0) (upTo (vAt bs) 0)))
    (h1 : q ≠ bb) (h2 : q ≠ ab) (h3 : q ≠ g) :
    Calls Try.prog 14 #[.pointer (some ⟨q, 0, none⟩), .func (.func 20) #[] #[.pointer (some ⟨bb, 0, none⟩), .pointer (some ⟨ab, 0, none⟩)]] w fun e w' => e = .returned (.tuple #[]) ∧ RowN w' q 42 (content (cAt bs) (upTo (kAt bs) 7) (upTo (vAt bs) 7)) ∧ Apart w w' q ab := by
  have HP := Lib.hid h
  have HR := Lib.hid R
  have r0 := R.cellAt (i := 0) (v := 0) rfl
  clear h R
  go_enter Try.func14, Try.ntmps14
  go_wp2_with fail
  refine (dec_c HP.out _).mono ?_
  rintro e w2 ⟨rfl, P2, A2⟩
  have R2 := A2.rowN HR.out h2 h2
  have r2 := R2.cellAt (i := 0) (v := 0) rfl
  have f2 := R2.free 0
  have R3 := Lib.hid (show RowN (w2.setCell ⟨q, 0, none⟩ (.int .u64 ((cAt bs).toNat : Int))) q 42 (content (cAt bs) (upTo (kAt bs) 0) (upTo (vAt bs) 0)) from R2.set 0 (cAt bs))
  have P3 := Lib.hid (P2.other 0 (.int .u64 ((cAt bs).toNat : Int)) h1 h2 h3)
  have A3 := Lib.hid ((A2.wide (p := q)).set 0 (.int .u64 ((cAt bs).toNat : Int)))
  clear P2 A2 R2 r0 HP HR
  go_wp2_with fail
  generalize w2.setCell ⟨q, 0, none⟩ (.int .u64 ((cAt bs).toNat : Int)) = w3 at *
  clear r2 f2
  go_loopw [14] (fun i wr => ∃ k : Nat, k ≤ 7 ∧ i = .int .i64 (k : Int) ∧ Hid (RowN wr q 42 (content (cAt bs) (upTo (kAt bs) k) (upTo (vAt bs) k))) ∧ Hid (Book wr bb ab g (1 + 16 * k) bs) ∧ Hid (Apart w wr q ab)) (fun i _ => 7 - (intOf i).toNat)
  case atStart => exact ⟨0, by omega, rfl, R3, P3, A3⟩
  case round =>
    obtain ⟨k, hk7, rfl, HR, HP, HB⟩ := hrel
    clear R3 P3 A3
    by_cases hlt : k < 7
    · have lk := length_upTo (kAt bs) k
      have lv := length_upTo (vAt bs) k
      have e1 := content_key (cAt bs) (upTo (kAt bs) k) (upTo (vAt bs) k) lk k hlt
      have s1 := Lib.hid ((content_setk (cAt bs) (upTo (kAt bs) k) (upTo (vAt bs) k) lk k hlt (kAt bs k)).trans (by rw [upTo_set _ _ hlt]))
      have lk' := length_upTo (kAt bs) (k + 1)
      have e2 := content_val (cAt bs) (upTo (kAt bs) (k + 1)) (upTo (vAt bs) k) lk' lv k hlt
      have s2 := Lib.hid ((content_setv (cAt bs) (upTo (kAt bs) (k + 1)) (upTo (vAt bs) k) lk' k hlt (vAt bs k)).trans (by rw [upTo_set _ _ hlt]))
      generalize (upTo (kAt bs) k)[k]'(by omega) = x at e1
      generalize (upTo (vAt bs) k)[k]'(by omega) = y at e2
      have k1 := HR.out.cellAt e1
      have k1f := HR.out.free (1 + k)
      have HP2 := Lib.hid (HP.out.still (Still.drew wr))
      have HR2 := Lib.hid (HR.out.still (Still.drew wr))
      have HB2 := Lib.hid (HB.out.still (Still.drew wr))
      clear lk lv lk'
      go_wp2_with fail
      go_region_with (go_at_call 20; refine (dec_k HP2.out hlt _).mono ?_; rintro e w4 ⟨rfl, P3, A3⟩; have R3 := A3.rowN HR2.out h2 h2; have r3 := R3.cellAt e1; have f3 := R3.free (1 + k); have HR3 := Lib.hid (R3.set (1 + k) (kAt bs k)); have HP3 := Lib.hid (P3.other (1 + k) (.int .u64 ((kAt bs k).toNat : Int)) h1 h2 h3); have HB3 := Lib.hid ((HB2.out.trans A3.wide).set (1 + k) (.int .u64 ((kAt bs k).toNat : Int))); clear P3 A3 R3)
      rw [s1.out] at HR3
      generalize w4.setCell ⟨q, 1 + k, none⟩ (.int .u64 ((kAt bs k).toNat : Int)) = w5 at *
      have k2 := HR3.out.cellAt e2
      have k2f := HR3.out.free (8 + k)
      have HP4 := Lib.hid (HP3.out.still (Still.drew w5))
      have HR4 := Lib.hid (HR3.out.still (Still.drew w5))
      have HB4 := Lib.hid (HB3.out.still (Still.drew w5))
      clear HP2 HR2 HB2 HP HR HB k1 k1f r3 f3 e1 HP3 HR3 HB3
      go_wp2_with fail
      go_region_with (go_at_call 20; refine (dec_v HP4.out hlt _).mono ?_; rintro e w6 ⟨rfl, P5, A5⟩; have R5 := A5.rowN HR4.out h2 h2; have r5 := R5.cellAt e2; have f5 := R5.free (8 + k); have HR5 := Lib.hid (R5.set (8 + k) (vAt bs k)); have HP5 := Lib.hid (P5.other (8 + k) (.int .u64 ((vAt bs k).toNat : Int)) h1 h2 h3); have HB5 := Lib.hid ((HB4.out.trans A5.wide).set (8 + k) (.int .u64 ((vAt bs k).toNat : Int))); clear P5 A5 R5)
      rw [s2.out] at HR5
      generalize w6.setCell ⟨q, 8 + k, none⟩ (.int .u64 ((vAt bs k).toNat : Int)) = w7 at *
      clear k2 k2f HP4 HR4 HB4 e2 r5 f5
      go_wp2_with fail
      go_roundw
      case rel => exact ⟨k + 1, by omega, by go_num, HR5, HP5, HB5⟩
      case measure => simp [intOf]; omega
    · obtain rfl : k = 7 := by omega
      go_wp2_with fail
      go_end0
      exact ⟨rfl, HR.out, HB.out⟩

/-- list answers the first n of seven numbers. -/
theorem list_any (x0 x1 x2 x3 x4 x5 x6 : UInt64) (n : Nat) (hn : n ≤ 7) (w : World) :
    Calls Try.prog 22 #[.agg #[.int .u64 (x0.toNat : Int), .int .u64 (x1.toNat : Int), .int .u64 (x2.toNat : Int), .int .u64 (x3.toNat : Int), .int .u64 (x4.toNat : Int), .int .u64 (x5.toNat : Int), .int .u64 (x6.toNat : Int)], .int .u64 (n : Int)] w fun e w' => ∃ g, e = .returned (.slice (some ⟨g, 0, none⟩) n n) ∧ FreshN w w' g ([x0, x1, x2, x3, x4, x5, x6].take n) := by
  have hmk := run_make_nums (w.alloc (.cells #[.int .u64 (x0.toNat : Int), .int .u64 (x1.toNat : Int), .int .u64 (x2.toNat : Int), .int .u64 (x3.toNat : Int), .int .u64 (x4.toNat : Int), .int .u64 (x5.toNat : Int), .int .u64 (x6.toNat : Int)] 40)) .u64 n (by omega)
  have R0 : RowN (w.alloc (.cells #[.int .u64 (x0.toNat : Int), .int .u64 (x1.toNat : Int), .int .u64 (x2.toNat : Int), .int .u64 (x3.toNat : Int), .int .u64 (x4.toNat : Int), .int .u64 (x5.toNat : Int), .int .u64 (x6.toNat : Int)] 40)) w.heap.size 40 [x0, x1, x2, x3, x4, x5, x6] := alloc_rowN w 40 [x0, x1, x2, x3, x4, x5, x6]
  have B0 := (Below.refl w.heap.size w).alloc (Nat.le_refl _) (.cells #[.int .u64 (x0.toNat : Int), .int .u64 (x1.toNat : Int), .int .u64 (x2.toNat : Int), .int .u64 (x3.toNat : Int), .int .u64 (x4.toNat : Int), .int .u64 (x5.toNat : Int), .int .u64 (x6.toNat : Int)] 40)
  have R1 := alloc_rowN (w.alloc (.cells #[.int .u64 (x0.toNat : Int), .int .u64 (x1.toNat : Int), .int .u64 (x2.toNat : Int), .int .u64 (x3.toNat : Int), .int .u64 (x4.toNat : Int), .int .u64 (x5.toNat : Int), .int .u64 (x6.toNat : Int)] 40)) 28 (List.replicate n 0)
  have B1 := (Below.refl (w.alloc (.cells #[.int .u64 (x0.toNat : Int), .int .u64 (x1.toNat : Int), .int .u64 (x2.toNat : Int), .int .u64 (x3.toNat : Int), .int .u64 (x4.toNat : Int), .int .u64 (x5.toNat : Int), .int .u64 (x6.toNat : Int)] 40)).heap.size _).alloc (Nat.le_refl _) (.cells (nvals (List.replicate n 0)).toArray 28)
  have R2 := R0.below R0.lt B1
  have B2 := B0.trans (B1.mono B0.size)
  obtain ⟨g, hg⟩ : ∃ g, g = (w.alloc (.cells #[.int .u64 (x0.toNat : Int), .int .u64 (x1.toNat : Int), .int .u64 (x2.toNat : Int), .int .u64 (x3.toNat : Int), .int .u64 (x4.toNat : Int), .int .u64 (x5.toNat : Int), .int .u64 (x6.toNat : Int)] 40)).heap.size := ⟨_, rfl⟩
  rw [← hg] at hmk R1
  have HG := Lib.hid (show w.heap.size ≤ g by rw [hg]; exact B0.size)
  clear B1 B0 R0
  generalize (w.alloc (.cells #[.int .u64 (x0.toNat : Int), .int .u64 (x1.toNat : Int), .int .u64 (x2.toNat : Int), .int .u64 (x3.toNat : Int), .int .u64 (x4.toNat : Int), .int .u64 (x5.toNat : Int), .int .u64 (x6.toNat : Int)] 40)).alloc (.cells (nvals (List.replicate n 0)).toArray 28) = w2 at hmk R1 R2 B2
  have T2 : ToldN w2 (some ⟨w.heap.size, 0, none⟩) ([x0, x1, x2, x3, x4, x5, x6].take n) := (R2.has.pre n).told
  obtain ⟨w3, hcopy, R3, B3, _, hsz⟩ := run_copy_nums w2 3 28 g 0 n n _ ([x0, x1, x2, x3, x4, x5, x6].take n) R1 _ n 7 (by simp; omega) T2 (Nat.le_refl _) (by simp)
  have HR := Lib.hid (show RowN w3 g 28 ([x0, x1, x2, x3, x4, x5, x6].take n) by
    have : splice (List.replicate n 0) 0 ([x0, x1, x2, x3, x4, x5, x6].take n) = [x0, x1, x2, x3, x4, x5, x6].take n := splice_all _ _ (by simp; omega)
    rwa [this] at R3)
  have HB := Lib.hid (B2.trans (B3.mono HG.out))
  have hsl : ∀ w' : World, (Instr.sliceAt 40 (.pointer (some ⟨w.heap.size, 0, none⟩)) none (some (.int .u64 (n : Int))) none).run Try.prog w' = .ok (.slice (some ⟨w.heap.size, 0, none⟩) n 7) w' := fun w' => by
    have e1 : Try.prog.arrayLen 40 = 7 := by kernel_rfl
    have e2 : Try.prog.underlying 40 = some (.array (Try.prog.arrayLen 40) (Try.prog.elem 40)) := by kernel_rfl
    have e3 : (Go.sizeOf (Try.prog.elem 40)).run Try.prog w' = .ok 1 w' := by kernel_rfl
    rw [run_sliceAt_array_h w' 40 _ e2 .u64 (n : Int) (by omega) (by rw [e1]; omega), e3, e1]
    simp [Result.andThen, slicedAt, Addr.add]
  clear R1 R2 B2 T2 R3 B3 hsz hg
  go_enter Try.func22, Try.ntmps22
  go_wp2_with fail
  go_ret
  exact ⟨g, rfl, HB.out, HG.out, HR.out.lt, HR.out⟩
end Go.Proofs.Ytngigpciipdogaa.Lf
