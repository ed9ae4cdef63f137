/- The reference's pick: free, Room, New, Done, Ask. -/
import Derived.Test.YtlemjegngnfanaaPkF
import Derived.Test.YtlemjegngnfanaaInv2
namespace Go.Proofs.Ytlemjegngnfanaa.Pk
open Go.RowKit Go.Proofs.Ytlemjegngnfanaa.Oct Go.Proofs.Ytlemjegngnfanaa.Mv Go.Proofs.Ytlemjegngnfanaa.Tl Go.Maps
set_option linter.unusedVariables false

/-- The reference's pick, as a value. -/
def rpc (q : Q) (b1 c1 b2 c2 : Nat) : List Value := [.slice (some ⟨b1, 0, none⟩) q.s.n c1, .slice (some ⟨b2, 0, none⟩) q.s.n c2, .int .i64 (q.first : Int), .int .i64 (q.next : Int), .int .i64 (q.asked : Int)]
def rpv (q : Q) (b1 c1 b2 c2 : Nat) : Value := .agg #[.slice (some ⟨b1, 0, none⟩) q.s.n c1, .slice (some ⟨b2, 0, none⟩) q.s.n c2, .int .i64 (q.first : Int), .int .i64 (q.next : Int), .int .i64 (q.asked : Int)]
theorem results_cell_three {fn : Func} {p u v : Tmp} {ty : TypeId} (h : fn.results = #[.cell p ty, .tmp u, .tmp v]) (tmps : Array Value) (P : Program) (w : World) :
    (results fn tmps).run P w = ((asAddr (tmps.getD p undef)).run P w).andThen fun a w₁ => ((loadVar ty a).run P w₁).andThen fun x w₂ => .ok (.tuple #[x, tmps.getD u undef, tmps.getD v undef]) w₂ := by
  simp only [results, h]
  simp [Sem.run_bind, Result.andThen]
theorem zero_rpick (w : World) : (zeroValue 37).run Try.prog w = .ok (.agg #[.slice none 0 0, .slice none 0 0, .int .i64 0, .int .i64 0, .int .i64 0]) w := by kernel_rfl

/-! ### free -/
theorem box_below (w : World) (o : Obj) : Below w.heap.size w (w.alloc o) := (Below.refl w.heap.size w).alloc (Nat.le_refl _) o
set_option maxRecDepth 100000 in
theorem rfree_at {w : World} {b1 c1 b2 c2 : Nat} {q : Q} (h : RAt w b1 c1 b2 c2 q.s) (i : Nat) (hi : i < q.s.n) :
    Calls Try.prog 42 #[rpv q b1 c1 b2 c2, .int .i64 (i : Int)] w fun e w' => e = .returned (.bool (q.s.free i)) ∧ Below w.heap.size w w' := by
  have B1 := box_below w (.cells #[.slice (some ⟨b1, 0, none⟩) q.s.n c1, .slice (some ⟨b2, 0, none⟩) q.s.n c2, .int .i64 (q.first : Int), .int .i64 (q.next : Int), .int .i64 (q.asked : Int)] 37)
  have cn := (h.below B1).cnt hi
  have wn := (h.below B1).was hi
  have HB := Lib.hid B1
  have hlt : (i : Int) < (q.s.n : Int) := by omega
  have hge : (0 : Int) ≤ (i : Int) := by omega
  clear h B1
  unfold rpv
  cases h0 : (q.s.cnt i == 0)
  · have hz := cnt_some h0
    have hz' : ¬ (((q.s.cnt i).toNat : Int) = 0) := by omega
    have hf : q.s.free i = false := by unfold St.free; rw [h0]; rfl
    rw [hf]
    clear hf h0 hz
    go_enter Try.func42, Try.ntmps42
    go_wp2_with fail
    go_ret
    exact ⟨rfl, HB.out⟩
  · have hz := cnt_zero h0
    rw [hz] at cn
    cases h1 : (q.s.was i == 0)
    · have hw : ¬ (((q.s.was i).toNat : Int) = 0) := by
        have : (q.s.was i).toNat ≠ 0 := fun e => by
          have e2 : q.s.was i = 0 := UInt16.toNat_inj.1 e
          rw [e2] at h1
          cases h1
        omega
      have hwb : (((q.s.was i).toNat : Int) == 0) = false := by rw [beq_eq_false_iff_ne]; exact hw
      have hf : q.s.free i = false := by unfold St.free; rw [h0, h1]; rfl
      rw [hf]
      clear hf h0 h1 hz
      go_enter Try.func42, Try.ntmps42
      go_wp2_with fail
      go_ret
      exact ⟨rfl, HB.out⟩
    · have hw : (q.s.was i).toNat = 0 := by
        have e2 : q.s.was i = 0 := by simpa using h1
        rw [e2]
        rfl
      rw [hw] at wn
      have hf : q.s.free i = true := by unfold St.free; rw [h0, h1]; rfl
      rw [hf]
      clear hf h0 h1 hz hw
      go_enter Try.func42, Try.ntmps42
      go_wp2_with fail
      go_ret
      exact ⟨rfl, HB.out⟩

/-! ### Room -/
set_option maxRecDepth 100000 in
theorem rroom_at {w : World} {b1 c1 b2 c2 : Nat} {q : Q} (h : RAt w b1 c1 b2 c2 q.s) (hok : q.Ok) :
    Calls Try.prog 41 #[rpv q b1 c1 b2 c2] w fun e w' => e = .returned (.int .i64 (q.room : Int)) ∧ Below w.heap.size w w' := by
  have B1 := box_below w (.cells #[.slice (some ⟨b1, 0, none⟩) q.s.n c1, .slice (some ⟨b2, 0, none⟩) q.s.n c2, .int .i64 (q.first : Int), .int .i64 (q.next : Int), .int .i64 (q.asked : Int)] 37)
  have R1 := alloc_rowV w 37 (rpc q b1 c1 b2 c2)
  have H := Lib.hid (h.below B1)
  have HB := Lib.hid B1
  have HR := Lib.hid R1
  have hf : q.first ≤ q.s.n := hok.first
  have hn : q.s.n ≤ 4096 := hok.s.hi
  clear h B1 R1 hok
  unfold rpv
  go_enter Try.func41, Try.ntmps41
  go_upto_region 1 with (fail)
  change Hid (RowV (w.alloc (.cells #[.slice (some ⟨b1, 0, none⟩) q.s.n c1, .slice (some ⟨b2, 0, none⟩) q.s.n c2, .int .i64 (q.first : Int), .int .i64 (q.next : Int), .int .i64 (q.asked : Int)] 37)) _ _ _) at HR
  generalize w.alloc (.cells #[.slice (some ⟨b1, 0, none⟩) q.s.n c1, .slice (some ⟨b2, 0, none⟩) q.s.n c2, .int .i64 (q.first : Int), .int .i64 (q.next : Int), .int .i64 (q.asked : Int)] 37) = w1 at *
  obtain ⟨x, hx⟩ : ∃ x, x = w.heap.size := ⟨_, rfl⟩
  rw [← hx] at HR ⊢
  clear hx
  have d2 := HR.out.cellAt (i := 2) rfl
  go_wp2_with fail
  clear d2
  go_loopw [4, 3] (fun i m wr => ∃ k : Nat, q.first + k ≤ q.s.n ∧ i = .int .i64 ((q.first + k : Nat) : Int) ∧ m = .int .i64 (St.count q.s q.first k : Int) ∧ Hid (Below w1.heap.size w1 wr)) (fun i _ _ => q.s.n - (Go.RowKit.intOf i).toNat)
  case atStart => exact ⟨0, by omega, rfl, rfl, Lib.hid (Below.refl _ _)⟩
  case round =>
    obtain ⟨k, hk, rfl, rfl, HB2⟩ := hrel
    have HR2 := Lib.hid (HR.out.below HR.out.lt HB2.out)
    have d0 := HR2.out.cellAt (i := 0) rfl
    have d1 := HR2.out.cellAt (i := 1) rfl
    have d2 := HR2.out.cellAt (i := 2) rfl
    have d3 := HR2.out.cellAt (i := 3) rfl
    have d4 := HR2.out.cellAt (i := 4) rfl
    by_cases hlt : q.first + k < q.s.n
    · have hki : ((q.first + k : Nat) : Int) < (q.s.n : Int) := by omega
      have hle := count_le q.s q.first k
      have HS := Lib.hid (count_succ q.s q.first k)
      have HF := Lib.hid (rfree_at (H.out.below HB2.out) (q.first + k) hlt)
      obtain ⟨v, hv⟩ : ∃ v : Nat, v = q.first + k := ⟨_, rfl⟩
      rw [← hv] at hki HS HF ⊢
      have hvs : v + 1 = q.first + (k + 1) := by omega
      clear hv
      go_wp2_with fail
      refine HF.out.mono ?_
      rintro e w3 ⟨rfl, bz⟩
      have HB3 := Lib.hid (HB2.out.trans (bz.mono HB2.out.size))
      clear bz d0 d1 d2 d3 d4
      cases hfr : q.s.free v
      all_goals
        rw [hfr] at HS
        go_wp2_with fail
        go_roundw
        case rel => exact ⟨k + 1, by omega, by rw [← hvs]; go_num, by rw [HS.out]; first | rfl | (congr 1), HB3⟩
        case measure => simp [Go.RowKit.intOf]; omega
    · have hkk : k = q.s.n - q.first := by omega
      have hki : ¬ ((q.first + k : Nat) : Int) < (q.s.n : Int) := by omega
      go_wp2_with fail
      go_ret
      exact ⟨by unfold Q.room; rw [← hkk]; rfl, HB.out.trans (HB2.out.mono HB.out.size)⟩

/-! ### New -/
set_option maxRecDepth 100000 in
theorem rpnew_yes {w : World} {b1 c1 b2 c2 : Nat} {s : St} (h : RAt w b1 c1 b2 c2 s) (f : Nat) (hf : f ≤ s.n) :
    Calls Try.prog 11 #[rval s.n b1 c1 b2 c2, .int .i64 (f : Int)] w fun e w' => e = .returned (.tuple #[rpv ⟨s, f, f, 0⟩ b1 c1 b2 c2, .int .i64 0]) ∧ Below w.heap.size w w' := by
  have hz := zero_rpick
  have h0 : ¬ ((f : Int) < 0) := by omega
  have h2 : ¬ ((s.n : Int) < (f : Int)) := by omega
  have B1 := box_below w (.cells #[.slice (some ⟨b1, 0, none⟩) s.n c1, .slice (some ⟨b2, 0, none⟩) s.n c2] 33)
  have B2 := B1.alloc B1.size (.cells #[.slice (some ⟨b1, 0, none⟩) s.n c1, .slice (some ⟨b2, 0, none⟩) s.n c2, .int .i64 (f : Int), .int .i64 (f : Int), .int .i64 0] 37)
  have HB := Lib.hid B2
  clear B1 B2 h
  unfold rval
  go_enter Try.func11, Try.ntmps11
  go_wp2_with fail
  refine bodyPost_ret (v := .tuple #[rpv ⟨s, f, f, 0⟩ b1 c1 b2 c2, .int .i64 0]) ?_ rfl ⟨rfl, HB.out⟩
  rw [results_cell_tmp rfl]
  unfold rpv
  go_simp
set_option maxRecDepth 100000 in
theorem rpnew_bad {w : World} {b1 c1 b2 c2 : Nat} {s : St} (h : RAt w b1 c1 b2 c2 s) (n : Int) (hn : n < 0 ∨ (s.n : Int) < n) :
    Calls Try.prog 11 #[rval s.n b1 c1 b2 c2, .int .i64 n] w fun e w' => e = .returned (.tuple #[.agg #[.slice none 0 0, .slice none 0 0, .int .i64 0, .int .i64 0, .int .i64 0], .int .i64 2]) ∧ Below w.heap.size w w' := by
  have hz := zero_rpick
  have B1 := box_below w (.cells #[.slice (some ⟨b1, 0, none⟩) s.n c1, .slice (some ⟨b2, 0, none⟩) s.n c2] 33)
  have B2 := B1.alloc B1.size (.cells #[.slice none 0 0, .slice none 0 0, .int .i64 0, .int .i64 0, .int .i64 0] 37)
  have HB := Lib.hid B2
  clear B1 B2 h
  unfold rval
  by_cases h0 : n < 0
  · clear hn
    go_enter Try.func11, Try.ntmps11
    go_wp2_with fail
    refine bodyPost_ret (v := .tuple #[.agg #[.slice none 0 0, .slice none 0 0, .int .i64 0, .int .i64 0, .int .i64 0], .int .i64 2]) ?_ rfl ⟨rfl, HB.out⟩
    rw [results_cell_tmp rfl]
    go_simp
  · have h2 : (s.n : Int) < n := by omega
    clear hn
    go_enter Try.func11, Try.ntmps11
    go_wp2_with fail
    refine bodyPost_ret (v := .tuple #[.agg #[.slice none 0 0, .slice none 0 0, .int .i64 0, .int .i64 0, .int .i64 0], .int .i64 2]) ?_ rfl ⟨rfl, HB.out⟩
    rw [results_cell_tmp rfl]
    go_simp

/-! ### Done, Ask -/
/-- The box and the result's variable. -/
def pc (q : Q) (k : Int) (b1 c1 b2 c2 : Nat) : Array Value := #[.slice (some ⟨b1, 0, none⟩) q.s.n c1, .slice (some ⟨b2, 0, none⟩) q.s.n c2, .int .i64 (q.first : Int), .int .i64 (q.next : Int), .int .i64 k]
end Go.Proofs.Ytlemjegngnfanaa.Pk

