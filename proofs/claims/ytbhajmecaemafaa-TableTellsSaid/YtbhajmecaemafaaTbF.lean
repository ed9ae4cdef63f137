/- Filled; New of one or two blocks; awake. (Written by bin/gen_tbawake.py.) -/
import Derived.Test.YtbhajmecaemafaaTbE
namespace Go.Proofs.Ytbhajmecaemafaa.Tb
open Go.RowKit Go.Proofs.Ytbhajmecaemafaa.Oct Go.Maps
set_option linter.unusedVariables false

def FilledPost (w : World) (c : UInt8) (e : Ending) (w' : World) : Prop := ∃ g, e = .returned (.slice (some ⟨g, 0, none⟩) 128 128) ∧ w.heap.size ≤ g ∧ Row w' g (List.replicate 128 c) ∧ Below w.heap.size w w'
def filledTo (c : UInt8) (k : Nat) : List UInt8 := List.replicate k c ++ List.replicate (128 - k) 0
theorem filledTo_set (c : UInt8) (k : Nat) (h : k < 128) : (filledTo c k).set k c = filledTo c (k + 1) := by
  unfold filledTo
  rw [List.set_append_right (h := by simp), List.length_replicate, Nat.sub_self, show 128 - k = (128 - (k + 1)) + 1 by omega, List.replicate_succ, List.set_cons_zero]
  rw [List.replicate_succ' (n := k), List.append_assoc]
  rfl
theorem length_filledTo (c : UInt8) (k : Nat) (h : k ≤ 128) : (filledTo c k).length = 128 := by simp [filledTo]; omega
theorem filledTo_end (c : UInt8) : filledTo c 128 = List.replicate 128 c := by
  unfold filledTo
  rw [Nat.sub_self, List.replicate_zero, List.append_nil]
set_option maxRecDepth 100000 in
set_option maxHeartbeats 800000 in
theorem filled_any (z : Int) (c : UInt8) (hz : z = (c.toNat : Int)) (w : World) : Calls Try.prog 18 #[.int .u8 z] w (FilledPost w c) := by
  subst hz
  have hmk : (Instr.makeSlice 26 (.int .i64 128) (.int .i64 128)).run Try.prog w = .ok (.slice (some ⟨w.heap.size, 0, none⟩) 128 128) (w.alloc (.cells (vals (List.replicate 128 0)).toArray 5)) := run_make_bytes w 128 (by omega)
  have R1 : Row (w.alloc (.cells (vals (List.replicate 128 0)).toArray 5)) w.heap.size (filledTo c 0) := alloc_row w (List.replicate 128 0)
  have B1 := (Below.refl w.heap.size w).alloc (Nat.le_refl _) (.cells (vals (List.replicate 128 0)).toArray 5)
  generalize w.alloc (.cells (vals (List.replicate 128 0)).toArray 5) = w1 at hmk R1 B1
  obtain ⟨g, hg⟩ : ∃ g, g = w.heap.size := ⟨_, rfl⟩
  rw [← hg] at hmk R1
  have HG := Lib.hid hg
  have HR := Lib.hid R1
  have HB := Lib.hid B1
  clear hg R1 B1
  go_enter Try.func18, Try.ntmps18
  go_wp2_with fail
  clear hmk
  go_loopw [4] (fun i wr => ∃ k : Nat, k ≤ 128 ∧ i = .int .i64 (k : Int) ∧ Hid (Row wr g (filledTo c k)) ∧ Below w.heap.size w wr) (fun i _ => 128 - (intOf i).toNat)
  case atStart => exact ⟨0, Nat.zero_le _, rfl, HR, HB.out⟩
  case round =>
    obtain ⟨k, hk, rfl, hR, hB⟩ := hrel
    have HB3 := Lib.hid hB
    clear hB
    by_cases hlt : k < 128
    · have hki : (k : Int) < 128 := by omega
      have hc := hR.out.has k (by rw [length_filledTo c k hk]; exact hlt)
      rw [Nat.zero_add] at hc
      have hf : wr.frozen? ⟨g, k, none⟩ = false := frozen_of_row wr g k _ _ hR.out
      have hs := hR.out.set k c
      rw [filledTo_set c k hlt] at hs
      have HS := Lib.hid hs
      have HB2 := Lib.hid (HB3.out.setCell (p := ⟨g, k, none⟩) (by rw [HG.out]; exact Nat.le_refl _) (.int .u8 (c.toNat : Int)))
      generalize (filledTo c k)[k]'(by rw [length_filledTo c k hk]; exact hlt) = old at hc
      clear hs
      go_wp2
      go_roundw
      case rel => exact ⟨k + 1, by omega, by go_num, HS, HB2.out⟩
      case measure => simp [intOf]; omega
    · obtain rfl : k = 128 := by omega
      go_wp2
      go_ret
      have hr := hR.out
      rw [filledTo_end] at hr
      exact ⟨g, rfl, by rw [HG.out]; exact Nat.le_refl _, hr, HB3.out⟩


/-- A block's bytes, whole and alone in memory. -/
structure Blk (w : World) (g : Nat) (bs : List UInt8) : Prop where
  row : Row w g bs
  len : bs.length = 128
theorem Blk.kept {w w' : World} {g : Nat} {bs : List UInt8} (h : Blk w g bs) (k : Below w.heap.size w w') : Blk w' g bs := by
  refine ⟨?_, h.len⟩
  have := h.row
  unfold Row at this ⊢
  rw [k.block g h.row.lt, this]
theorem Blk.told {w : World} {g : Nat} {bs : List UInt8} (h : Blk w g bs) : Oct.Told w (some ⟨g, 0, none⟩) bs := h.row.has.told
theorem filled_blk (z : Int) (c : UInt8) (hz : z = (c.toNat : Int)) (w : World) : Calls Try.prog 18 #[.int .u8 z] w fun e w' => ∃ g, e = .returned (.slice (some ⟨g, 0, none⟩) 128 128) ∧ Blk w' g (List.replicate 128 c) ∧ w.heap.size ≤ g ∧ Below w.heap.size w w' :=
  (filled_any z c hz w).mono fun e w' ⟨g, h1, h2, h3, h4⟩ => ⟨g, h1, ⟨h3, List.length_replicate⟩, h2, h4⟩

theorem new_yes {w : World} {A : Option Addr} {n c : Nat} {l : List Pair} (h : PIn w A n c l) (rest : UInt64) (z : Int) (hz : z = (rest.toNat : Int)) (hg : newErr (tells l) = 0) :
    Calls Try.prog 10 #[.slice A n c, .int .u64 z] w fun e w' => ∃ a b, e = .returned (.tuple #[.pointer (some ⟨a, 0, none⟩), .int .i64 0]) ∧ Tab w' a b (tells l) rest ∧ w.heap.size ≤ a ∧ Below w.heap.size w w' := by
  subst hz
  refine (new_any h rest).mono fun e w' hp => ?_
  unfold NewPost at hp
  rw [if_pos hg] at hp
  obtain ⟨a, b, h1, h2, h3, h4, h5⟩ := hp
  exact ⟨a, b, h1, h4, h2, h5⟩
theorem new_no {w : World} {A : Option Addr} {n c : Nat} {l : List Pair} (h : PIn w A n c l) (rest : UInt64) (z : Int) (hz : z = (rest.toNat : Int)) (k : Int) (hg : newErr (tells l) = k) (hk : k ≠ 0) :
    Calls Try.prog 10 #[.slice A n c, .int .u64 z] w fun e w' => e = .returned (.tuple #[.pointer none, .int .i64 k]) ∧ Below w.heap.size w w' := by
  subst hz
  subst hg
  refine (new_any h rest).mono fun e w' hp => ?_
  unfold NewPost at hp
  rw [if_neg hk] at hp
  exact hp
theorem pin0 (w : World) : PIn w none 0 0 [] := ⟨rfl, Nat.le_refl _, Nat.zero_le _, by simp, .inl rfl, fun _ => rfl⟩
theorem pin1 {w : World} {g : Nat} {bs : List UInt8} (h : Blk w g bs) (c : Nat) (p : UInt64) (z : Int) (hz : z = (p.toNat : Int)) :
    PIn (w.alloc (.cells #[.slice (some ⟨g, 0, none⟩) 128 c, .int .u64 z] 28)) (some ⟨w.heap.size, 0, none⟩) 1 1 [⟨some ⟨g, 0, none⟩, 128, c, bs, p⟩] := by
  subst hz
  have kk := (Below.refl w.heap.size w).alloc (Nat.le_refl _) (.cells #[.slice (some ⟨g, 0, none⟩) 128 c, .int .u64 (p.toNat : Int)] 28)
  refine ⟨rfl, Nat.le_refl _, by decide, fun q hq => ?_, (alloc_rowV w 28 (pvals [⟨some ⟨g, 0, none⟩, 128, c, bs, p⟩])).has.told, fun e => by cases e⟩
  obtain rfl : q = _ := by simpa using hq
  exact ⟨h.len, (h.kept kk).told, show 128 ≤ maxLen by decide⟩
theorem pin2 {w : World} {g g' : Nat} {bs bs' : List UInt8} (h : Blk w g bs) (h' : Blk w g' bs') (c c' : Nat) (p p' : UInt64) (z z' : Int) (hz : z = (p.toNat : Int)) (hz' : z' = (p'.toNat : Int)) :
    PIn (w.alloc (.cells #[.slice (some ⟨g, 0, none⟩) 128 c, .int .u64 z, .slice (some ⟨g', 0, none⟩) 128 c', .int .u64 z'] 28)) (some ⟨w.heap.size, 0, none⟩) 2 2 [⟨some ⟨g, 0, none⟩, 128, c, bs, p⟩, ⟨some ⟨g', 0, none⟩, 128, c', bs', p'⟩] := by
  subst hz hz'
  have kk := (Below.refl w.heap.size w).alloc (Nat.le_refl _) (.cells #[.slice (some ⟨g, 0, none⟩) 128 c, .int .u64 (p.toNat : Int), .slice (some ⟨g', 0, none⟩) 128 c', .int .u64 (p'.toNat : Int)] 28)
  refine ⟨rfl, Nat.le_refl _, by decide, fun q hq => ?_, (alloc_rowV w 28 (pvals [⟨some ⟨g, 0, none⟩, 128, c, bs, p⟩, ⟨some ⟨g', 0, none⟩, 128, c', bs', p'⟩])).has.told, fun e => by cases e⟩
  simp only [List.mem_cons, List.not_mem_nil, or_false] at hq
  rcases hq with rfl | rfl
  · exact ⟨h.len, (h.kept kk).told, show 128 ≤ maxLen by decide⟩
  · exact ⟨h'.len, (h'.kept kk).told, show 128 ≤ maxLen by decide⟩
theorem calls_alloc {f : FuncId} {args : Array Value} {w : World} {o : Obj} {Q : Ending → World → Prop} (h : Calls Try.prog f args (w.alloc o) fun e w' => Q e w' ∧ Below (w.alloc o).heap.size (w.alloc o) w') :
    Calls Try.prog f args (w.alloc o) fun e w' => Q e w' ∧ Below w.heap.size w w' :=
  h.mono fun e w' ⟨h1, h2⟩ => ⟨h1, ((Below.refl w.heap.size w).alloc (Nat.le_refl _) o).trans (h2.mono (by simp))⟩
/-- New's answer at a world that has just been given a block, told from the world before it. -/
theorem new_yes' {w : World} {o : Obj} {A : Option Addr} {n c : Nat} {l : List Pair} (h : PIn (w.alloc o) A n c l) (rest : UInt64) (z : Int) (hz : z = (rest.toNat : Int)) (hg : newErr (tells l) = 0) :
    Calls Try.prog 10 #[.slice A n c, .int .u64 z] (w.alloc o) fun e w' => ∃ a b, e = .returned (.tuple #[.pointer (some ⟨a, 0, none⟩), .int .i64 0]) ∧ Tab w' a b (tells l) rest ∧ w.heap.size ≤ a ∧ Below w.heap.size w w' :=
  (new_yes h rest z hz hg).mono fun e w' ⟨a, b, h1, h2, h3, h4⟩ => ⟨a, b, h1, h2, Nat.le_trans (by simp) h3, ((Below.refl w.heap.size w).alloc (Nat.le_refl _) o).trans (h4.mono (by simp))⟩
theorem new_no' {w : World} {o : Obj} {A : Option Addr} {n c : Nat} {l : List Pair} (h : PIn (w.alloc o) A n c l) (rest : UInt64) (z : Int) (hz : z = (rest.toNat : Int)) (k : Int) (hg : newErr (tells l) = k) (hk : k ≠ 0) :
    Calls Try.prog 10 #[.slice A n c, .int .u64 z] (w.alloc o) fun e w' => e = .returned (.tuple #[.pointer none, .int .i64 k]) ∧ Below w.heap.size w w' :=
  (new_no h rest z hz k hg hk).mono fun e w' ⟨h1, h4⟩ => ⟨h1, ((Below.refl w.heap.size w).alloc (Nat.le_refl _) o).trans (h4.mono (by simp))⟩
theorem print_is {w : World} {a b : Nat} {ps : List Pr} {rest : UInt64} (h : Tab w a b ps rest) (A : Option Addr) (n c : Nat) (x : List UInt8) (hx : x.length = n) (hT : Oct.Told w A x) (p : UInt64) (k : Int) (hp : pout ps rest x = (p, k)) (z : Int) (hz : z = (p.toNat : Int)) :
    Calls Try.prog 13 #[.pointer (some ⟨a, 0, none⟩), .slice A n c] w fun e w' => e = .returned (.tuple #[.int .u64 z, .int .i64 k]) ∧ Below w.heap.size w w' := by
  subst hz
  have := print_tab h A n c x hx hT
  rwa [hp] at this
theorem unlike_is {w : World} {a b : Nat} {ps : List Pr} {rest : UInt64} (h : Tab w a b ps rest) (u : Bool) (hu : unlike ps rest = u) :
    Calls Try.prog 16 #[.pointer (some ⟨a, 0, none⟩)] w fun e w' => e = .returned (.bool u) ∧ Below w.heap.size w w' := by
  subst hu
  exact unlike_tab h
def ones : List UInt8 := List.replicate 128 1
def twos : List UInt8 := List.replicate 128 2
theorem eql_none (a : Addr) (w : World) : (binOp .eql 30 (.pointer (some a)) (.pointer none)).run Try.prog w = .ok (.bool false) w := by
  have h : ∀ d : Nat, (Op.equalIn (d + 1) 30 (.pointer (some a)) (.pointer none)).run Try.prog w = .ok false w := fun d => by
    simp [Op.equalIn, run_underlying Try.underlying30]
  simp only [binOp]
  simp [Op.equal, Op.maxDepth, h 9999]
theorem err1 : newErr [(ones, 5)] = 0 := by decide +kernel
theorem err2 : newErr [(ones, 5), (twos, 5)] = 0 := by decide +kernel
theorem err4 : newErr [(ones, 5), (ones, 6)] = 70 := by decide +kernel
set_option maxRecDepth 100000 in
set_option maxHeartbeats 4000000 in
theorem awake_any (w : World) : Calls Try.prog 8 #[] w fun e w' => e = .returned (.bool true) ∧ Below w.heap.size w w' := by
  have HB := Lib.hid (Below.refl w.heap.size w)
  go_enter Try.func8, Try.ntmps8
  go_wp2_with fail
  refine (filled_blk 1 1 rfl _).mono ?_
  rintro e v1 ⟨g1, rfl, b1, -, kk⟩
  replace HB := Lib.hid (HB.out.trans (kk.mono HB.out.size))
  have HG1 := Lib.hid (show Blk v1 g1 ones from b1)
  clear b1
  clear kk
  go_wp2_with fail
  refine (filled_blk 2 2 rfl _).mono ?_
  rintro e v2 ⟨g2, rfl, b2, -, kk⟩
  replace HG1 := Lib.hid (HG1.out.kept kk)
  replace HB := Lib.hid (HB.out.trans (kk.mono HB.out.size))
  have HG2 := Lib.hid (show Blk v2 g2 twos from b2)
  clear b2
  clear kk
  go_wp2_with fail
  refine (new_yes' (pin1 HG1.out 128 5 5 rfl) 9 9 rfl err1).mono ?_
  rintro e v3 ⟨a1, m1, rfl, t1, -, kk⟩
  replace HG1 := Lib.hid (HG1.out.kept kk)
  replace HG2 := Lib.hid (HG2.out.kept kk)
  replace HB := Lib.hid (HB.out.trans (kk.mono HB.out.size))
  have HT1 := Lib.hid (show Tab v3 a1 m1 [(ones, 5)] 9 from t1)
  clear t1
  clear kk
  go_wp2_with fail
  refine (new_yes' (pin2 HG1.out HG2.out 128 128 5 5 5 5 rfl rfl) 9 9 rfl err2).mono ?_
  rintro e v4 ⟨a2, m2, rfl, t2, -, kk⟩
  replace HG1 := Lib.hid (HG1.out.kept kk)
  replace HG2 := Lib.hid (HG2.out.kept kk)
  replace HT1 := Lib.hid (HT1.out.kept kk)
  replace HB := Lib.hid (HB.out.trans (kk.mono HB.out.size))
  have HT2 := Lib.hid (show Tab v4 a2 m2 [(ones, 5), (twos, 5)] 9 from t2)
  clear t2
  clear kk
  go_wp2_with fail
  refine (new_yes' (pin1 HG1.out 128 5 5 rfl) 5 5 rfl err1).mono ?_
  rintro e v5 ⟨a3, m3, rfl, t3, -, kk⟩
  replace HG1 := Lib.hid (HG1.out.kept kk)
  replace HG2 := Lib.hid (HG2.out.kept kk)
  replace HT1 := Lib.hid (HT1.out.kept kk)
  replace HT2 := Lib.hid (HT2.out.kept kk)
  replace HB := Lib.hid (HB.out.trans (kk.mono HB.out.size))
  have HT3 := Lib.hid (show Tab v5 a3 m3 [(ones, 5)] 5 from t3)
  clear t3
  clear kk
  go_wp2_with fail
  refine (new_no' (pin2 HG1.out HG1.out 128 128 5 6 5 6 rfl rfl) 9 9 rfl 70 err4 (by decide)).mono ?_
  rintro e v6 ⟨rfl, kk⟩
  replace HG1 := Lib.hid (HG1.out.kept kk)
  replace HG2 := Lib.hid (HG2.out.kept kk)
  replace HT1 := Lib.hid (HT1.out.kept kk)
  replace HT2 := Lib.hid (HT2.out.kept kk)
  replace HT3 := Lib.hid (HT3.out.kept kk)
  replace HB := Lib.hid (HB.out.trans (kk.mono HB.out.size))
  clear kk
  go_wp2_with fail
  refine (new_yes (pin0 _) 0 0 rfl (by decide +kernel)).mono ?_
  rintro e v7 ⟨a5, m5, rfl, t5, -, kk⟩
  replace HG1 := Lib.hid (HG1.out.kept kk)
  replace HG2 := Lib.hid (HG2.out.kept kk)
  replace HT1 := Lib.hid (HT1.out.kept kk)
  replace HT2 := Lib.hid (HT2.out.kept kk)
  replace HT3 := Lib.hid (HT3.out.kept kk)
  replace HB := Lib.hid (HB.out.trans (kk.mono HB.out.size))
  have HT5 := Lib.hid (show Tab v7 a5 m5 [] 0 from t5)
  clear t5
  clear kk
  have q1 := eql_none ⟨a1, 0, none⟩ v7
  have q2 := eql_none ⟨a2, 0, none⟩ v7
  have q3 := eql_none ⟨a3, 0, none⟩ v7
  have q5 := eql_none ⟨a5, 0, none⟩ v7
  go_wp2_with fail
  clear q1 q2 q3 q5
  refine (print_is HT1.out (some ⟨g1, 0, none⟩) 128 128 ones HG1.out.len HG1.out.told 5 0 (by decide +kernel) 5 rfl).mono ?_
  rintro e v8 ⟨rfl, kk⟩
  replace HG1 := Lib.hid (HG1.out.kept kk)
  replace HG2 := Lib.hid (HG2.out.kept kk)
  replace HT1 := Lib.hid (HT1.out.kept kk)
  replace HT2 := Lib.hid (HT2.out.kept kk)
  replace HT3 := Lib.hid (HT3.out.kept kk)
  replace HT5 := Lib.hid (HT5.out.kept kk)
  replace HB := Lib.hid (HB.out.trans (kk.mono HB.out.size))
  clear kk
  go_wp2_with fail
  refine (print_is HT1.out (some ⟨g2, 0, none⟩) 128 128 twos HG2.out.len HG2.out.told 9 0 (by decide +kernel) 9 rfl).mono ?_
  rintro e v9 ⟨rfl, kk⟩
  replace HG1 := Lib.hid (HG1.out.kept kk)
  replace HG2 := Lib.hid (HG2.out.kept kk)
  replace HT1 := Lib.hid (HT1.out.kept kk)
  replace HT2 := Lib.hid (HT2.out.kept kk)
  replace HT3 := Lib.hid (HT3.out.kept kk)
  replace HT5 := Lib.hid (HT5.out.kept kk)
  replace HB := Lib.hid (HB.out.trans (kk.mono HB.out.size))
  clear kk
  obtain ⟨xt, hsl, -⟩ := run_slice_tail g1 0 128 128 1 1 rfl (by omega) (by omega)
  go_wp2_with fail
  refine (print_no HT1.out (some ⟨g1, xt, none⟩) 127 127 (by omega)).mono ?_
  rintro e v10 ⟨rfl, kk⟩
  replace HG1 := Lib.hid (HG1.out.kept kk)
  replace HG2 := Lib.hid (HG2.out.kept kk)
  replace HT1 := Lib.hid (HT1.out.kept kk)
  replace HT2 := Lib.hid (HT2.out.kept kk)
  replace HT3 := Lib.hid (HT3.out.kept kk)
  replace HT5 := Lib.hid (HT5.out.kept kk)
  replace HB := Lib.hid (HB.out.trans (kk.mono HB.out.size))
  clear kk
  clear hsl
  go_wp2_with fail
  refine (len_tab HT1.out).mono ?_
  rintro e wq ⟨rfl, rfl⟩
  go_wp2_with fail
  refine (unlike_is HT1.out true (by decide +kernel)).mono ?_
  rintro e v11 ⟨rfl, kk⟩
  replace HG1 := Lib.hid (HG1.out.kept kk)
  replace HG2 := Lib.hid (HG2.out.kept kk)
  replace HT1 := Lib.hid (HT1.out.kept kk)
  replace HT2 := Lib.hid (HT2.out.kept kk)
  replace HT3 := Lib.hid (HT3.out.kept kk)
  replace HT5 := Lib.hid (HT5.out.kept kk)
  replace HB := Lib.hid (HB.out.trans (kk.mono HB.out.size))
  clear kk
  go_wp2_with fail
  refine (unlike_is HT2.out false (by decide +kernel)).mono ?_
  rintro e v12 ⟨rfl, kk⟩
  replace HG1 := Lib.hid (HG1.out.kept kk)
  replace HG2 := Lib.hid (HG2.out.kept kk)
  replace HT1 := Lib.hid (HT1.out.kept kk)
  replace HT2 := Lib.hid (HT2.out.kept kk)
  replace HT3 := Lib.hid (HT3.out.kept kk)
  replace HT5 := Lib.hid (HT5.out.kept kk)
  replace HB := Lib.hid (HB.out.trans (kk.mono HB.out.size))
  clear kk
  go_wp2_with fail
  refine (unlike_is HT3.out false (by decide +kernel)).mono ?_
  rintro e v13 ⟨rfl, kk⟩
  replace HG1 := Lib.hid (HG1.out.kept kk)
  replace HG2 := Lib.hid (HG2.out.kept kk)
  replace HT1 := Lib.hid (HT1.out.kept kk)
  replace HT2 := Lib.hid (HT2.out.kept kk)
  replace HT3 := Lib.hid (HT3.out.kept kk)
  replace HT5 := Lib.hid (HT5.out.kept kk)
  replace HB := Lib.hid (HB.out.trans (kk.mono HB.out.size))
  clear kk
  go_wp2_with fail
  refine (unlike_is HT5.out true (by decide +kernel)).mono ?_
  rintro e v14 ⟨rfl, kk⟩
  replace HG1 := Lib.hid (HG1.out.kept kk)
  replace HG2 := Lib.hid (HG2.out.kept kk)
  replace HT1 := Lib.hid (HT1.out.kept kk)
  replace HT2 := Lib.hid (HT2.out.kept kk)
  replace HT3 := Lib.hid (HT3.out.kept kk)
  replace HT5 := Lib.hid (HT5.out.kept kk)
  replace HB := Lib.hid (HB.out.trans (kk.mono HB.out.size))
  clear kk
  go_wp2_with fail
  go_ret
  exact ⟨rfl, HB.out⟩
end Go.Proofs.Ytbhajmecaemafaa.Tb
