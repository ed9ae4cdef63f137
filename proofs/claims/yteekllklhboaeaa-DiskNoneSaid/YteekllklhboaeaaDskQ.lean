/- The walk of the statement DiskNone: whatever the place, the bytes, the crash, it answers true and writes nothing that was there. -/
import Derived.Test.YteekllklhboaeaaDskR
namespace Go.Proofs.Yteekllklhboaeaa.Dsk
open Go.RowKit Go.Proofs.Yteekllklhboaeaa.Oct
set_option linter.unusedVariables false

/-- No disk: nil, or one that nobody made. -/
def Non (w : World) (v : Value) : Prop := v = .pointer none ∨ ∃ b, v = .pointer (some ⟨b, 0, none⟩) ∧ w.cell? ⟨b, 5, none⟩ = some (.pointer none)
theorem made_non {w : World} {v : Value} (h : Non w v) : Calls Try.prog 37 #[v] w fun e w' => e = .returned (.bool false) ∧ w = w' := by
  rcases h with rfl | ⟨b, rfl, h⟩
  · exact made_none w
  · exact made_bare b w h
theorem Non.below {w w' : World} {v : Value} (h : Non w v) (hb : Below w.heap.size w w') : Non w' v :=
  h.imp id fun ⟨b, e, k⟩ => ⟨b, e, (hb.cell (p := ⟨b, 5, none⟩) (World.block_lt_of_cell? w _ k)).trans k⟩
theorem read_non {w : World} {v : Value} (h : Non w v) (p : Int) : Calls Try.prog 21 #[v, .int .i64 p] w fun e w' => e = .returned (.tuple #[.slice none 0 0, .int .i64 1]) ∧ w = w' := by
  have H := Lib.hid h
  clear h
  go_enter Try.func21, Try.ntmps21
  go_wp2_with fail
  refine (made_non H.out).mono ?_
  rintro e w' ⟨rfl, rfl⟩
  go_wp2_with fail
  go_ret2
  exact ⟨rfl, rfl⟩
theorem write_non {w : World} {v : Value} (h : Non w v) (p : Int) (b : Value) : Calls Try.prog 25 #[v, .int .i64 p, b] w fun e w' => e = .returned (.int .i64 1) ∧ w = w' := by
  have H := Lib.hid h
  clear h
  go_enter Try.func25, Try.ntmps25
  go_wp2_with fail
  refine (made_non H.out).mono ?_
  rintro e w' ⟨rfl, rfl⟩
  go_wp2_with fail
  go_ret
  exact ⟨rfl, rfl⟩
theorem flush_non {w : World} {v : Value} (h : Non w v) : Calls Try.prog 27 #[v] w fun e w' => e = .returned (.int .i64 1) ∧ w = w' := by
  have H := Lib.hid h
  clear h
  go_enter Try.func27, Try.ntmps27
  go_wp2_with fail
  refine (made_non H.out).mono ?_
  rintro e w' ⟨rfl, rfl⟩
  go_wp2_with fail
  go_ret
  exact ⟨rfl, rfl⟩
theorem arm_non {w : World} {v : Value} (h : Non w v) (n : Int) : Calls Try.prog 24 #[v, .int .i64 n] w fun e w' => e = .returned (.int .i64 1) ∧ w = w' := by
  have H := Lib.hid h
  clear h
  go_enter Try.func24, Try.ntmps24
  go_wp2_with fail
  refine (made_non H.out).mono ?_
  rintro e w' ⟨rfl, rfl⟩
  go_wp2_with fail
  go_ret
  exact ⟨rfl, rfl⟩
def NonPost (w : World) (e : Ending) (w' : World) : Prop := e = .returned (.int .i64 1) ∧ Below w.heap.size w w'
theorem crash_non {w : World} {v : Value} (h : Non w v) (x y z : Value) : Calls Try.prog 18 #[v, .agg #[x, y, z]] w (NonPost w) := by
  have hb := (Below.refl w.heap.size w).alloc (Nat.le_refl _) (.cells #[x, y, z] 37)
  have H := Lib.hid (h.below hb)
  have HB := Lib.hid hb
  clear h hb
  go_enter Try.func18, Try.ntmps18
  go_wp2_with fail
  refine (made_non H.out).mono ?_
  rintro e w' ⟨rfl, rfl⟩
  go_wp2_with fail
  go_ret
  exact ⟨rfl, HB.out⟩
theorem len_non {w : World} {v : Value} (h : Non w v) : Calls Try.prog 29 #[v] w fun e w' => e = .returned (.int .i64 0) ∧ w = w' := by
  have H := Lib.hid h
  clear h
  go_enter Try.func29, Try.ntmps29
  go_wp2_with fail
  refine (made_non H.out).mono ?_
  rintro e w' ⟨rfl, rfl⟩
  go_wp2_with fail
  go_ret
  exact ⟨rfl, rfl⟩
theorem cached_non {w : World} {v : Value} (h : Non w v) : Calls Try.prog 19 #[v] w fun e w' => e = .returned (.slice none 0 0) ∧ w = w' := by
  have H := Lib.hid h
  clear h
  go_enter Try.func19, Try.ntmps19
  go_wp2_with fail
  refine (made_non H.out).mono ?_
  rintro e w' ⟨rfl, rfl⟩
  go_wp2_with fail
  go_ret
  exact ⟨rfl, rfl⟩
theorem down_non {w : World} {v : Value} (h : Non w v) : Calls Try.prog 20 #[v] w fun e w' => e = .returned (.bool false) ∧ w = w' := by
  have H := Lib.hid h
  clear h
  go_enter Try.func20, Try.ntmps20
  go_wp2_with fail
  refine (made_non H.out).mono ?_
  rintro e w' ⟨rfl, rfl⟩
  go_wp2_with fail
  go_ret
  exact ⟨rfl, rfl⟩
theorem copy_non {w : World} {v : Value} (h : Non w v) : Calls Try.prog 22 #[v] w fun e w' => e = .returned (.pointer none) ∧ w = w' := by
  have H := Lib.hid h
  clear h
  go_enter Try.func22, Try.ntmps22
  go_wp2_with fail
  refine (made_non H.out).mono ?_
  rintro e w' ⟨rfl, rfl⟩
  go_wp2_with fail
  go_ret
  exact ⟨rfl, rfl⟩

/-- What stands there ahead of the loop. -/
structure NS (w1 : World) (h : Nat) (x y z : Value) : Prop where
  q0 : w1.cell? ⟨h, 0, none⟩ = some x
  q1 : w1.cell? ⟨h, 1, none⟩ = some y
  q2 : w1.cell? ⟨h, 2, none⟩ = some z
  r0 : w1.cell? ⟨h + 1 + 1, 0, none⟩ = some (.pointer none)
  r1 : w1.cell? ⟨h + 1 + 1, 1, none⟩ = some (.pointer (some ⟨h + 1, 0, none⟩))
  b5 : w1.cell? ⟨h + 1, 5, none⟩ = some (.pointer none)
theorem NS.below {w1 w2 : World} {h : Nat} {x y z : Value} (n : NS w1 h x y z) (b : Below w1.heap.size w1 w2) : NS w2 h x y z :=
  ⟨(b.cell (p := ⟨h, 0, none⟩) (World.block_lt_of_cell? w1 _ n.q0)).trans n.q0, (b.cell (p := ⟨h, 1, none⟩) (World.block_lt_of_cell? w1 _ n.q1)).trans n.q1, (b.cell (p := ⟨h, 2, none⟩) (World.block_lt_of_cell? w1 _ n.q2)).trans n.q2,
   (b.cell (p := ⟨h + 1 + 1, 0, none⟩) (World.block_lt_of_cell? w1 _ n.r0)).trans n.r0, (b.cell (p := ⟨h + 1 + 1, 1, none⟩) (World.block_lt_of_cell? w1 _ n.r1)).trans n.r1, (b.cell (p := ⟨h + 1, 5, none⟩) (World.block_lt_of_cell? w1 _ n.b5)).trans n.b5⟩
theorem three_new (w : World) (X Y Z : Obj) : (((w.alloc X).alloc Y).alloc Z).heap[w.heap.size]? = some X ∧ (((w.alloc X).alloc Y).alloc Z).heap[w.heap.size + 1]? = some Y ∧ (((w.alloc X).alloc Y).alloc Z).heap[w.heap.size + 1 + 1]? = some Z := by
  have e1 : (w.alloc X).heap.size = w.heap.size + 1 := by simp
  have e2 : ((w.alloc X).alloc Y).heap.size = w.heap.size + 1 + 1 := by simp
  refine ⟨?_, ?_, ?_⟩
  · rw [Below.heap_alloc _ _ _ (by omega), Below.heap_alloc _ _ _ (by omega)]
    exact heap_alloc_new w X
  · rw [Below.heap_alloc _ _ _ (by omega)]
    have := heap_alloc_new (w.alloc X) Y
    rwa [e1] at this
  · have := heap_alloc_new ((w.alloc X).alloc Y) Z
    rwa [e2] at this
theorem none_start (w : World) (x y z : Value) : NS (((w.alloc (.cells #[x, y, z] 37)).alloc (.cells #[.slice none 0 0, .slice none 0 0, .bool false, .bool false, .int .i64 0, .pointer none] 79)).alloc (.cells #[.pointer none, .pointer (some ⟨w.heap.size + 1, 0, none⟩)] 24)) w.heap.size x y z := by
  obtain ⟨h1, h2, h3⟩ := three_new w (.cells #[x, y, z] 37) (.cells #[.slice none 0 0, .slice none 0 0, .bool false, .bool false, .int .i64 0, .pointer none] 79) (.cells #[.pointer none, .pointer (some ⟨w.heap.size + 1, 0, none⟩)] 24)
  exact ⟨cell_of_row _ _ 0 _ _ _ h1, cell_of_row _ _ 1 _ _ _ h1, cell_of_row _ _ 2 _ _ _ h1, cell_of_row _ _ 0 _ _ _ h3, cell_of_row _ _ 1 _ _ _ h3, cell_of_row _ _ 5 _ _ _ h2⟩

set_option maxRecDepth 100000 in
set_option maxHeartbeats 1600000 in
theorem none_walk (p : Int) (bv : Value) (x y z : Value) (w : World) :
    Calls Try.prog 8 #[.int .i64 p, bv, .agg #[x, y, z]] w (BoolPost w true) := by
  have N1 := none_start w x y z
  have B1 : Below w.heap.size w (((w.alloc (.cells #[x, y, z] 37)).alloc (.cells #[.slice none 0 0, .slice none 0 0, .bool false, .bool false, .int .i64 0, .pointer none] 79)).alloc (.cells #[.pointer none, .pointer (some ⟨w.heap.size + 1, 0, none⟩)] 24)) :=
    (((Below.refl _ _).alloc (Nat.le_refl _) _).alloc (by simp) _).alloc (by simp; omega) _
  have HN1 := Lib.hid N1
  have HB1 := Lib.hid B1
  clear N1 B1
  go_enter Try.func8, Try.ntmps8
  go_wp2_with fail
  generalize ((w.alloc (.cells #[x, y, z] 37)).alloc (.cells #[.slice none 0 0, .slice none 0 0, .bool false, .bool false, .int .i64 0, .pointer none] 79)).alloc (.cells #[.pointer none, .pointer (some ⟨w.heap.size + 1, 0, none⟩)] 24) = w1 at *
  obtain ⟨h, hh⟩ : ∃ h, h = w.heap.size := ⟨_, rfl⟩
  rw [← hh] at HN1 ⊢
  have HH := Lib.hid hh
  clear hh
  go_loopw [17] (fun i wr => ∃ k : Nat, k ≤ 2 ∧ i = .int .i64 (k : Int) ∧ Hid (NS wr h x y z) ∧ Below w.heap.size w wr) (fun i _ => 2 - (intOf i).toNat)
  case atStart => exact ⟨0, by omega, rfl, HN1, HB1.out⟩
  case round =>
    obtain ⟨k, hk, rfl, HN, hB⟩ := hrel
    have HB := Lib.hid hB
    clear hB
    by_cases hlt : k < 2
    · have hki : (k : Int) < 2 := by omega
      obtain ⟨v, hv, hnon⟩ : ∃ v, wr.cell? ⟨h + 1 + 1, k, none⟩ = some v ∧ Non wr v := by
        rcases Nat.lt_or_ge k 1 with h1 | h1
        · obtain rfl : k = 0 := by omega
          exact ⟨_, HN.out.r0, .inl rfl⟩
        · obtain rfl : k = 1 := by omega
          exact ⟨_, HN.out.r1, .inr ⟨_, rfl, HN.out.b5⟩⟩
      have HV := Lib.hid hnon
      have q0 := HN.out.q0
      have q1 := HN.out.q1
      have q2 := HN.out.q2
      clear hnon
      go_wp2_with fail
      refine (read_non HV.out p).mono ?_
      rintro e w' ⟨rfl, rfl⟩
      go_wp2_with fail
      refine (write_non HV.out p _).mono ?_
      rintro e w' ⟨rfl, rfl⟩
      go_wp2_with fail
      refine (flush_non HV.out).mono ?_
      rintro e w' ⟨rfl, rfl⟩
      go_wp2_with fail
      refine (arm_non HV.out p).mono ?_
      rintro e w' ⟨rfl, rfl⟩
      go_wp2_with fail
      refine (crash_non HV.out x y z).mono ?_
      rintro e w2 ⟨rfl, b2⟩
      have HV2 := Lib.hid (HV.out.below b2)
      have HN2 := Lib.hid (HN.out.below b2)
      have HB2 := Lib.hid (HB.out.trans (b2.mono HB.out.size))
      clear b2 hv q0 q1 q2
      go_wp2_with fail
      refine (len_non HV2.out).mono ?_
      rintro e w' ⟨rfl, rfl⟩
      go_wp2_with fail
      refine (cached_non HV2.out).mono ?_
      rintro e w' ⟨rfl, rfl⟩
      go_wp2_with fail
      refine (down_non HV2.out).mono ?_
      rintro e w' ⟨rfl, rfl⟩
      go_wp2_with fail
      refine (copy_non HV2.out).mono ?_
      rintro e w' ⟨rfl, rfl⟩
      go_wp2_with fail
      go_roundw
      case rel => exact ⟨k + 1, by omega, by go_num, HN2, HB2.out⟩
      case measure => simp [intOf]; omega
    · obtain rfl : k = 2 := by omega
      go_wp2_with fail
      refine (awake_any _).mono ?_
      rintro e w2 ⟨rfl, b2⟩
      have HB2 := Lib.hid (HB.out.trans (b2.mono HB.out.size))
      clear b2
      go_wp2_with fail
      go_ret
      exact ⟨rfl, HB2.out⟩
theorem none_said (p : Int) (ba : Option Addr) (bl bc : Nat) (bz : List Int) (KA : Option Addr) (len kc : Nat) (ks : List Bool) (torn cut : Int) (w : World) (w0 : (Lit.int .i64 p).wf = true) (w1 : IsRow .u8 w ba bl bc bz) (w2 : KeepIn w KA len kc ks) (w3 : (Lit.int .i64 torn).wf = true) (w4 : (Lit.int .i64 cut).wf = true) :
    Calls Try.prog 8 #[.int .i64 p, .slice ba bl bc, .agg #[.slice KA len kc, .int .i64 torn, .int .i64 cut]] w (BoolPost w true) := none_walk p _ _ _ _ w
end Go.Proofs.Yteekllklhboaeaa.Dsk
