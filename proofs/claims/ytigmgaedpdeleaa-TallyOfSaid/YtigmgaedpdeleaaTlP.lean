/- done: an operation, its block among those there are. -/
import Derived.Test.YtigmgaedpdeleaaTlO
namespace Go.Proofs.Ytigmgaedpdeleaa.Tl
open Go.RowKit Go.Proofs.Ytigmgaedpdeleaa.Oct Go.Proofs.Ytigmgaedpdeleaa.Mv Go.Maps
set_option linter.unusedVariables false

/-- A number's place among n. -/
def spot (n : Nat) (b : Int) : Nat := ((b.tmod n + n).tmod n).toNat
theorem spot_lt {n : Nat} (h : 0 < n) (b : Int) : spot n b < n := by
  unfold spot
  have h1 : (0 : Int) < n := by omega
  have h2 := Int.lt_tmod_of_pos b h1
  have h3 := Int.tmod_lt_of_pos b h1
  have h4 := Int.tmod_lt_of_pos (b.tmod n + n) h1
  have h5 : 0 ≤ (b.tmod n + n).tmod n := Int.tmod_nonneg _ (by omega)
  omega
theorem spot_is {n : Nat} (h : 0 < n) (b : Int) : (b.tmod n + n).tmod n = (spot n b : Int) := by
  unfold spot
  have h1 : (0 : Int) < n := by omega
  have h2 := Int.lt_tmod_of_pos b h1
  have h5 : 0 ≤ (b.tmod n + n).tmod n := Int.tmod_nonneg _ (by omega)
  omega
/-- What comes of an operation. -/
def St.did (s : St) (x : Opr) : St :=
  if x.what.toNat % 4 = 0 then (s.up (spot s.n x.b : Int)).2 else if x.what.toNat % 4 = 1 then (s.down (spot s.n x.b : Int)).2 else if x.what.toNat % 4 = 2 then s.keep else s.back
theorem calls_flip {P : Program} {f : FuncId} {args : Array Value} {w : World} {v : Value} (h : Calls P f args w fun e w' => e = .returned v ∧ w = w') : Calls P f args w fun e w' => e = .returned v ∧ w' = w :=
  h.mono fun _ _ ⟨h1, h2⟩ => ⟨h1, h2.symm⟩
theorem At.drewN {w : World} {a cb mb c : Nat} {s : St} (h : At w a cb mb c s) (n : Nat) : At (w.drewN n) a cb mb c s := h.blocks rfl rfl rfl
set_option maxRecDepth 100000 in
theorem done_at {w : World} {a cb mb c : Nat} {s : St} (h : At w a cb mb c s) (x : Opr) (hx : (Lit.int .i64 x.b).wf = true) :
    Calls Try.prog 29 #[.pointer (some ⟨a, 0, none⟩), .agg #[.int .u8 (x.what.toNat : Int), .int .i64 x.b]] w fun e w' => e = .returned (.tuple #[]) ∧ At w' a cb mb c (s.did x) ∧ But w w' cb mb := by
  have hs := h.ok.lo
  have hs2 := h.ok.hi
  have hn : (0 : Int) < (s.n : Int) := by unfold St.n; omega
  have hn2 : (s.n : Int) ≤ 4096 := by unfold St.n; omega
  have hl := Int.lt_tmod_of_pos x.b hn
  have hu := Int.tmod_lt_of_pos x.b hn
  have hsp := spot_is (n := s.n) (by omega) x.b
  have hz : ¬ ((s.n : Int) = 0) := by omega
  have hsp2 : (x.b.tmod (s.n : Int) + (s.n : Int)) % (s.n : Int) = (spot s.n x.b : Int) := by rw [← Int.tmod_eq_emod_of_nonneg (by omega)]; exact hsp
  have hxw : -9223372036854775808 ≤ x.b ∧ x.b ≤ 9223372036854775807 := by
    have h2 : IntKind.i64.min ≤ x.b ∧ x.b ≤ IntKind.i64.max := by simpa [Lit.wf] using hx
    exact h2
  have hw4 := u8_lt x.what
  have B1 := (Below.refl w.heap.size w).alloc (Nat.le_refl _) (.cells #[.int .u8 (x.what.toNat : Int), .int .i64 x.b] 36)
  have R1 := alloc_rowV w 36 [.int .u8 (x.what.toNat : Int), .int .i64 x.b]
  have HA1 := Lib.hid (h.kept B1)
  have HB1 := Lib.hid (But.of_below cb mb B1 (Nat.le_refl _))
  have d0 := R1.cellAt (i := 0) rfl
  have d1 := R1.cellAt (i := 1) rfl
  clear h B1 R1 hs hs2 hx
  go_enter Try.func29, Try.ntmps29
  go_wp2_with fail
  generalize w.alloc (.cells #[.int .u8 (x.what.toNat : Int), .int .i64 x.b] 36) = w1 at *
  obtain ⟨r, hr⟩ : ∃ r, r = w.heap.size := ⟨_, rfl⟩
  rw [← hr] at d0 d1 ⊢
  clear hr
  refine (blocks_at HA1.out).mono ?_
  rintro e w' ⟨rfl, rfl⟩
  go_upto_region 3 with (fail)
  go_quiet ((go_at_call 12; exact Calls.quiet_of_same (calls_flip (blocks_at (HA1.out.drewN _)))))
  have HAN := Lib.hid (HA1.out.drewN nq)
  clear hsp hsp2 hl hu hz hxw
  rcases (show x.what.toNat % 4 = 0 ∨ x.what.toNat % 4 = 1 ∨ x.what.toNat % 4 = 2 ∨ x.what.toNat % 4 = 3 by omega) with hm | hm | hm | hm
  · have hm4 : (x.what.toNat : Int) % 4 = 0 := by omega
    have HD := Lib.hid (show s.did x = (s.up (spot s.n x.b : Int)).2 from by unfold St.did; rw [if_pos hm])
    clear hm
    go_wp2_with fail
    refine (up_at HAN.out _).mono ?_
    rintro e w2 ⟨rfl, az, bz⟩
    have HA2 := Lib.hid az
    have HB2 := Lib.hid (HB1.out.trans ((But.still (show Still w1 (w1.drewN nq) from ⟨rfl, rfl, rfl, rfl⟩)).trans bz))
    clear az bz
    dsimp only
    go_wp2_with fail
    go_end0
    rw [HD.out]
    exact ⟨rfl, HA2.out, HB2.out⟩
  · have hm4 : (x.what.toNat : Int) % 4 = 1 := by omega
    have HD := Lib.hid (show s.did x = (s.down (spot s.n x.b : Int)).2 from by unfold St.did; rw [if_neg (by omega), if_pos hm])
    clear hm
    go_wp2_with fail
    refine (down_at HAN.out _).mono ?_
    rintro e w2 ⟨rfl, az, bz⟩
    have HA2 := Lib.hid az
    have HB2 := Lib.hid (HB1.out.trans ((But.still (show Still w1 (w1.drewN nq) from ⟨rfl, rfl, rfl, rfl⟩)).trans bz))
    clear az bz
    dsimp only
    go_wp2_with fail
    go_end0
    rw [HD.out]
    exact ⟨rfl, HA2.out, HB2.out⟩
  · have hm4 : (x.what.toNat : Int) % 4 = 2 := by omega
    have HD := Lib.hid (show s.did x = s.keep from by unfold St.did; rw [if_neg (by omega), if_neg (by omega), if_pos hm])
    clear hm
    go_wp2_with fail
    refine (keep_at HAN.out).mono ?_
    rintro e w2 ⟨rfl, az, bz⟩
    have HA2 := Lib.hid az
    have HB2 := Lib.hid (HB1.out.trans ((But.still (show Still w1 (w1.drewN nq) from ⟨rfl, rfl, rfl, rfl⟩)).trans bz))
    clear az bz
    dsimp only
    go_wp2_with fail
    go_end0
    rw [HD.out]
    exact ⟨rfl, HA2.out, HB2.out⟩
  · have hm4 : (x.what.toNat : Int) % 4 = 3 := by omega
    have HD := Lib.hid (show s.did x = s.back from by unfold St.did; rw [if_neg (by omega), if_neg (by omega), if_neg (by omega)])
    clear hm
    go_wp2_with fail
    refine (back_at HAN.out).mono ?_
    rintro e w2 ⟨rfl, az, bz⟩
    have HA2 := Lib.hid az
    have HB2 := Lib.hid (HB1.out.trans ((But.still (show Still w1 (w1.drewN nq) from ⟨rfl, rfl, rfl, rfl⟩)).trans bz))
    clear az bz
    dsimp only
    go_wp2_with fail
    go_end0
    rw [HD.out]
    exact ⟨rfl, HA2.out, HB2.out⟩
end Go.Proofs.Ytigmgaedpdeleaa.Tl
