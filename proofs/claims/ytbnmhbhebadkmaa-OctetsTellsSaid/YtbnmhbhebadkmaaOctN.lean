/- The walk of the statement OctetsTells: whatever the bytes, the page, the place, the size, the number, the kind, it answers true and writes nothing that was there. -/
import Derived.Test.YtbnmhbhebadkmaaOctL
namespace Go.Proofs.Ytbnmhbhebadkmaa.Oct
open Go.RowKit
set_option linter.unusedVariables false

theorem came_nil {w : World} {a : Option Addr} {len cap : Nat} {zs : List Int} (h : IsRow .u8 w a len cap zs) : a = none → cap = 0 := by
  rcases h with ⟨rfl, rfl, rfl, rfl⟩ | ⟨x, rfl, _⟩
  · exact fun _ => rfl
  · exact fun h => nomatch h
theorem Told.below {w w' : World} {a : Option Addr} {bs : List UInt8} (h : Told w a bs) (B : Below w.heap.size w w') : Told w' a bs := by
  rcases h with h | ⟨b, o, h, k⟩
  · exact .inl h
  · by_cases h0 : bs = []
    · exact .inl h0
    · exact .inr ⟨b, o, h, k.below (World.block_lt_of_cell? w _ (k 0 (List.length_pos_iff.2 h0))) B⟩

/-- The four numbers of the struct that came in, as they lie in its box. -/
structure Box (w : World) (g : Nat) (p s n k : Int) : Prop where
  lt : g < w.heap.size
  c0 : w.cell? ⟨g, 0, none⟩ = some (.int .i64 p)
  c1 : w.cell? ⟨g, 1, none⟩ = some (.int .i64 s)
  c2 : w.cell? ⟨g, 2, none⟩ = some (.int .u64 n)
  c3 : w.cell? ⟨g, 3, none⟩ = some (.int .u8 k)
theorem Box.below {w w' : World} {g B : Nat} {p s n k : Int} (h : Box w g p s n k) (hg : g < B) (b : Below B w w') : Box w' g p s n k :=
  ⟨Nat.lt_of_lt_of_le h.lt b.size, (b.cell (p := ⟨g, 0, none⟩) hg).trans h.c0, (b.cell (p := ⟨g, 1, none⟩) hg).trans h.c1, (b.cell (p := ⟨g, 2, none⟩) hg).trans h.c2, (b.cell (p := ⟨g, 3, none⟩) hg).trans h.c3⟩
theorem box_made (w : World) (p s n k : Int) (t : TypeId) : Box (w.alloc (.cells #[.int .i64 p, .int .i64 s, .int .u64 n, .int .u8 k] t)) w.heap.size p s n k := by
  have h := heap_alloc_new w (.cells #[.int .i64 p, .int .i64 s, .int .u64 n, .int .u8 k] t)
  exact ⟨by simp, (cell_of_row _ _ 0 _ _ (0, 0) h).trans rfl, (cell_of_row _ _ 1 _ _ (0, 0) h).trans rfl, (cell_of_row _ _ 2 _ _ (0, 0) h).trans rfl, (cell_of_row _ _ 3 _ _ (0, 0) h).trans rfl⟩

set_option maxRecDepth 100000 in
set_option maxHeartbeats 1000000 in
theorem tells_long (a0 : Option Addr) (len0 cap0 : Nat) (a1 : Option Addr) (len1 cap1 : Nat) (p s n k : Int) (w : World) (hm0 : len0 ≤ maxLen) (hm1 : len1 ≤ maxLen) (h : 300 < len0 ∨ (¬ 300 < len0 ∧ 300 < len1)) :
    Calls Try.prog 3 #[.slice a0 len0 cap0, .slice a1 len1 cap1, .agg #[.int .i64 p, .int .i64 s, .int .u64 n, .int .u8 k]] w fun e w' => e = .returned (.bool true) ∧ Below w.heap.size w w' := by
  unfold maxLen at hm0 hm1
  rcases h with h | ⟨h0, h⟩
  all_goals
    go_enter Try.func3, Try.ntmps3
    go_wp2_with fail
    refine (awake_any _).mono ?_
    rintro e w7 ⟨rfl, hb⟩
    have B7 := ((Below.refl w.heap.size w).alloc (Nat.le_refl _) _).trans (hb.mono (alloc_base _ _))
    go_wp2_with fail
    go_ret
    exact ⟨rfl, B7⟩

set_option maxRecDepth 100000 in
set_option maxHeartbeats 2000000 in
theorem tells_short (a0 : Option Addr) (len0 cap0 : Nat) (a1 : Option Addr) (len1 cap1 : Nat) (p s n : Int) (kind : UInt8) (bs ps : List UInt8) (w : World) (C0 : Came w a0 len0 cap0 bs) (C1 : Came w a1 len1 cap1 ps) (N0 : a0 = none → cap0 = 0) (N1 : a1 = none → cap1 = 0) (h0 : len0 ≤ 300) (h1 : len1 ≤ 300) (hn0 : 0 ≤ n) (hn8 : n ≤ 18446744073709551615) :
    Calls Try.prog 3 #[.slice a0 len0 cap0, .slice a1 len1 cap1, .agg #[.int .i64 p, .int .i64 s, .int .u64 n, .int .u8 (kind.toNat : Int)]] w fun e w' => e = .returned (.bool true) ∧ Below w.heap.size w w' := by
  obtain ⟨m, ok, gA, gB⟩ := get_both bs len0 C0.hlen h0 p s
  obtain ⟨xs, er, sA, sB⟩ := seal_both kind bs len0 C0.hlen h0
  obtain ⟨ko, ys, eo, oA, oB⟩ := open_both ps len1 C1.hlen h1
  obtain ⟨zs, okp, hz, pA, pB⟩ := put_both bs len0 C0.hlen h0 p s n hn0 hn8
  have GA := Lib.hid gA
  have GB := Lib.hid gB
  have SA := Lib.hid sA
  have SB := Lib.hid sB
  have OA := Lib.hid oA
  have OB := Lib.hid oB
  have PA := Lib.hid pA
  have PB := Lib.hid pB
  have HZ := Lib.hid hz
  have HC0 := Lib.hid C0
  have HC1 := Lib.hid C1
  have HN0 := Lib.hid N0
  have HN1 := Lib.hid N1
  have X1 := box_made w p s n (kind.toNat : Int) 25
  have B1 := (Below.refl w.heap.size w).alloc (Nat.le_refl _) (.cells #[.int .i64 p, .int .i64 s, .int .u64 n, .int .u8 (kind.toNat : Int)] 25)
  clear gA gB sA sB oA oB pA pB hz C0 C1 N0 N1 hn0 hn8
  go_enter Try.func3, Try.ntmps3
  go_wp2_with fail
  obtain ⟨B, hB⟩ : ∃ B, B = w.heap.size := ⟨_, rfl⟩
  rw [← hB] at X1 ⊢
  have HB : B = w.heap.size := hB
  have HBB := Lib.hid HB
  clear hB HB
  generalize w.alloc (.cells #[.int .i64 p, .int .i64 s, .int .u64 n, .int .u8 (kind.toNat : Int)] 25) = w1 at *
  refine (again_len a0 len0 cap0 bs HC0.out.hlen _ (by unfold maxLen; omega) (HC0.out.told.below B1)).mono ?_
  rintro e w2 ⟨g1, c1, rfl, F2⟩
  have B2 := B1.trans (F2.below.mono B1.size)
  have X2 := X1.below X1.lt F2.below
  go_wp2_with fail
  refine (again_len a1 len1 cap1 ps HC1.out.hlen _ (by unfold maxLen; omega) (HC1.out.told.below B2)).mono ?_
  rintro e w3 ⟨g2, c2, rfl, F3⟩
  have B3 := B2.trans (F3.below.mono B2.size)
  have X3 := X2.below X2.lt F3.below
  have I3 := F2.has.below F2.hi F3.below
  have Z3 : Free w3 g1 0 len0 := fun i hi => by
    rw [F3.below.frozen (p := ⟨g1, 0 + i, none⟩) F2.hi]
    exact F2.free i (by rw [HC0.out.hlen]; exact hi)
  have hBg : B < g1 := Nat.lt_of_lt_of_le X1.lt F2.lo
  have wg1 : w.heap.size ≤ g1 := Nat.le_trans B1.size F2.lo
  have g13 : g1 < w3.heap.size := Nat.lt_of_lt_of_le F2.hi F3.below.size
  have J3 := F3.has
  have cc2 := F3.len
  have cm2 := F3.cap
  have T0 := HC0.out.told.below B3
  have T1 := HC1.out.told.below B3
  rw [HC1.out.hlen] at cc2
  clear F2 F3 B1 B2 X1 X2
  have x0 := X3.c0
  have x1 := X3.c1
  have x3 := X3.c3
  go_wp2_with fail
  refine (GA.out g1 c1 _ I3).mono ?_
  rintro e w' ⟨rfl, rfl⟩
  go_wp2_with fail
  refine (GB.out a0 cap0 _ T0 HC0.out.le HC0.out.hcap).mono ?_
  rintro e w' ⟨rfl, rfl⟩
  go_wp2_with fail
  refine (sum_told _ len0 c1 bs HC0.out.hlen _ (by unfold maxLen; omega) I3.told).mono ?_
  rintro e w' ⟨rfl, rfl⟩
  go_wp2_with fail
  refine (rsum_told _ len0 cap0 bs HC0.out.hlen _ (by unfold maxLen; omega) T0).mono ?_
  rintro e w' ⟨rfl, rfl⟩
  go_wp2_with fail
  refine (equal_yes _ _ len0 len0 c1 cap0 bs bs rfl HC0.out.hlen HC0.out.hlen _ I3.told T0).mono ?_
  rintro e w' ⟨rfl, rfl⟩
  go_wp2_with fail
  refine (SA.out _ c1 _ I3.told).mono ?_
  rintro e w4 ⟨va, vc, rfl, V4, D4⟩
  have y3 := (X3.below X3.lt D4).c3
  have B4 := B3.trans (D4.mono B3.size)
  go_wp2_with fail
  refine (SB.out a0 cap0 _ (HC0.out.told.below B4) HN0.out).mono ?_
  rintro e w5 ⟨ua, uc, rfl, U5, D5⟩
  have B5 := B4.trans (D5.mono B4.size)
  have V5 := V4.below D5
  have E5 : Below w3.heap.size w3 w5 := D4.trans (D5.mono D4.size)
  clear x0 x1 x3 y3
  go_wp2_with fail
  refine (OA.out _ c2 _ (J3.told.below E5) cc2 cm2).mono ?_
  rintro e w6 ⟨ta, tc, rfl, Y6, D6⟩
  have B6 := B5.trans (D6.mono B5.size)
  have E6 : Below w3.heap.size w3 w6 := E5.trans (D6.mono E5.size)
  go_wp2_with fail
  refine (OB.out a1 cap1 _ (HC1.out.told.below B6) HC1.out.le HC1.out.hcap).mono ?_
  rintro e w7 ⟨sa, sc, rfl, Y7, D7⟩
  have B7 := B6.trans (D7.mono B6.size)
  have E7 : Below w3.heap.size w3 w7 := E6.trans (D7.mono E6.size)
  have V7 := (V5.below D6).below D7
  have U7 := (U5.below D6).below D7
  have Y6' := Y6.below D7
  have X7 := X3.below X3.lt E7
  have I7 := I3.below g13 E7
  have J7 := J3.told.below E7
  have Z7 : Free w7 g1 0 len0 := fun i hi => by rw [E7.frozen (p := ⟨g1, 0 + i, none⟩) g13]; exact Z3 i hi
  have T07 := HC0.out.told.below B7
  have T17 := HC1.out.told.below B7
  have s37 := E7.size
  clear B3 B4 B5 B6 E5 E6 E7 D4 D5 D6 D7 V4 V5 U5 Y6 X3 I3 J3 T0 T1 Z3
  have x0 := X7.c0
  have x1 := X7.c1
  have x2 := X7.c2
  go_wp2_with fail
  refine (equal_yes _ _ xs.length xs.length _ _ xs xs rfl rfl rfl _ V7 U7).mono ?_
  rintro e w' ⟨rfl, rfl⟩
  go_wp2_with fail
  refine (equal_yes _ _ ys.length ys.length _ _ ys ys rfl rfl rfl _ Y6' Y7).mono ?_
  rintro e w' ⟨rfl, rfl⟩
  go_wp2_with fail
  refine (equal_yes _ _ len0 len0 c1 cap0 bs bs rfl HC0.out.hlen HC0.out.hlen _ I7.told T07).mono ?_
  rintro e w' ⟨rfl, rfl⟩
  go_wp2_with fail
  refine (equal_yes _ _ len1 len1 c2 cap1 ps ps rfl HC1.out.hlen HC1.out.hlen _ J7 T17).mono ?_
  rintro e w' ⟨rfl, rfl⟩
  clear V7 U7 Y6' Y7 J7 T17
  go_wp2_with fail
  refine (PA.out g1 c1 _ I7 Z7).mono ?_
  rintro e w8 ⟨rfl, H8, D8⟩
  have B8 := B7.trans (D8.mono wg1)
  have X8 := X7.below hBg D8
  have g18 : g1 < w8.heap.size := Nat.lt_of_lt_of_le (Nat.lt_of_lt_of_le g13 s37) D8.size
  have T08 := HC0.out.told.below B8
  clear x0 x1 x2 X7 I7 Z7 T07 B7
  have x0 := X8.c0
  have x1 := X8.c1
  have x2 := X8.c2
  go_wp2_with fail
  refine (PB.out a0 cap0 _ T08 HN0.out).mono ?_
  rintro e w9 ⟨ra, rc, rfl, R9, D9⟩
  have H9 := (H8.below g18 D9).told
  have B9 := B8.trans (D9.mono B8.size)
  clear x0 x1 x2 X8 T08 D8 D9 B8 H8
  go_wp2_with fail
  refine (equal_yes _ _ len0 len0 c1 _ zs zs rfl HZ.out HZ.out _ H9 R9).mono ?_
  rintro e w' ⟨rfl, rfl⟩
  clear H9 R9
  go_wp2_with fail
  refine (awake_any _).mono ?_
  rintro e w10 ⟨rfl, hb⟩
  have B10 := B9.trans (hb.mono B9.size)
  go_wp2_with fail
  go_ret
  exact ⟨rfl, B10⟩

theorem tells_walk (a0 : Option Addr) (len0 cap0 : Nat) (z0 : List Int) (a1 : Option Addr) (len1 cap1 : Nat) (z1 : List Int) (p s n k : Int) (w : World) (w0 : IsRow .u8 w a0 len0 cap0 z0) (w1 : IsRow .u8 w a1 len1 cap1 z1) (wn : (Lit.int .u64 n).wf = true) (wk : (Lit.int .u8 k).wf = true) :
    Calls Try.prog 3 #[.slice a0 len0 cap0, .slice a1 len1 cap1, .agg #[.int .i64 p, .int .i64 s, .int .u64 n, .int .u8 k]] w fun e w' => e = .returned (.bool true) ∧ Below w.heap.size w w' := by
  obtain ⟨bs, C0⟩ := came w0
  obtain ⟨ps, C1⟩ := came w1
  obtain ⟨kind, rfl⟩ := u8_of wk
  have hn := u64_wf wn
  by_cases h : 300 < len0 ∨ (¬ 300 < len0 ∧ 300 < len1)
  · exact tells_long a0 len0 cap0 a1 len1 cap1 p s n _ w (Nat.le_trans C0.le C0.hcap) (Nat.le_trans C1.le C1.hcap) h
  · exact tells_short a0 len0 cap0 a1 len1 cap1 p s n kind bs ps w C0 C1 (came_nil w0) (came_nil w1) (by omega) (by omega) hn.1 hn.2
end Go.Proofs.Ytbnmhbhebadkmaa.Oct
