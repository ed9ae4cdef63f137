/- The reference's disk: Write, Cached. -/
import Derived.Test.YthcjhbjhghfhjaaRefB
namespace Go.Proofs.Ythcjhbjhghfhjaa.Dsk
open Go.RowKit Go.Proofs.Ythcjhbjhghfhjaa.Oct
set_option linter.unusedVariables false

/-- The waits are new. -/
theorem RAt.waits' {w : World} {base rb n : Nat} {cv wv wv' : Value} {r : Rf} (h : RAt w base rb cv wv r) (W : List (Nat × List UInt8)) (ho : w.ownsRow base 99 2 wv' W.length (wz W)) (hW : W.length ≤ 1000000) :
    RAt (w.setCell ⟨rb, 2, none⟩ wv') base rb cv wv' { r with waits := W } where
  lo := h.lo
  head := heap_setCell_same w rb 2 _ _ wv' h.head
  came := own_same h.came fun k hb _ => heap_setCell_other _ _ _ _ (by rintro rfl; obtain ⟨cur, hc⟩ := own_block h.came _ hb; rw [h.head] at hc; cases hc)
  waits := own_same ho fun k hb _ => heap_setCell_other _ _ _ _ (by rintro rfl; obtain ⟨cur, hc⟩ := own_block ho _ hb; rw [h.head] at hc; cases hc)
  few := ⟨h.few.1, hW⟩
  left := h.left
theorem RAt.came' {w : World} {base rb n : Nat} {cv cv' wv : Value} {r : Rf} (h : RAt w base rb cv wv r) (C : List (Nat × List UInt8)) (ho : w.ownsRow base 99 2 cv' C.length (wz C)) (hC : C.length ≤ 1000000) :
    RAt (w.setCell ⟨rb, 1, none⟩ cv') base rb cv' wv { r with came := C } where
  lo := h.lo
  head := heap_setCell_same w rb 1 _ _ cv' h.head
  came := own_same ho fun k hb _ => heap_setCell_other _ _ _ _ (by rintro rfl; obtain ⟨cur, hc⟩ := own_block ho _ hb; rw [h.head] at hc; cases hc)
  waits := own_same h.waits fun k hb _ => heap_setCell_other _ _ _ _ (by rintro rfl; obtain ⟨cur, hc⟩ := own_block h.waits _ hb; rw [h.head] at hc; cases hc)
  few := ⟨hC, h.few.2⟩
  left := h.left
theorem still_there {w : World} {p : Addr} {v : Value} {o : Obj} (h : w.cell? p = some v) : (w.alloc o).cell? p = some v := (((Below.refl w.heap.size w).alloc (Nat.le_refl _) o).cell (World.block_lt_of_cell? w _ h)).trans h
def RIs (w : World) (base rb : Nat) (r : Rf) : Prop := ∃ cv wv, RAt w base rb cv wv r
def RDid (w : World) (base rb : Nat) (a : Int × Rf) (e : Ending) (w' : World) : Prop := e = .returned (.int .i64 a.1) ∧ RIs w' base rb a.2 ∧ Turned rT base w w'
def Rf.doWrite (r : Rf) (p : Int) (bs : List UInt8) : Int × Rf :=
  if r.down = true then (20, r) else if ¬ (0 ≤ p ∧ p < r.N) then (2, r) else if bs.length ≠ 128 then (2, r) else if r.can = false then (20, r.spent) else (0, { r.spent with waits := r.waits ++ [(p.toNat, bs)] })
theorem spent_frame (r : Rf) : r.spent.came = r.came ∧ r.spent.waits = r.waits ∧ r.spent.N = r.N := by
  unfold Rf.spent
  split
  · exact ⟨rfl, rfl, rfl⟩
  · split <;> exact ⟨rfl, rfl, rfl⟩
theorem string_size (bs : List UInt8) : (ByteArray.mk bs.toArray).size = bs.length := rfl
set_option maxRecDepth 100000 in
set_option maxHeartbeats 1600000 in
theorem rwrite_at {w : World} {base rb : Nat} {cv wv : Value} {r : Rf} (h : RAt w base rb cv wv r) (hfew : r.waits.length < 1000000) (p : Int) (bs : List UInt8) (hbs : bs.length ≤ 281474976710656) :
    Calls Try.prog 31 #[.pointer (some ⟨rb, 0, none⟩), .int .i64 p, txt bs] w (RDid w base rb (r.doWrite p bs)) := by
  have c0 := h.c0
  have c4 := h.c4
  have H := Lib.hid h
  clear h
  by_cases hd : r.down = true
  · have HD := Lib.hid (show r.doWrite p bs = (20, r) by simp [Rf.doWrite, hd])
    rw [hd] at c4
    clear hd
    go_enter Try.func31, Try.ntmps31
    go_wp2
    go_ret
    rw [HD.out]
    exact ⟨rfl, ⟨_, _, H.out⟩, Turned.refl _ _ _⟩
  · have hdf : r.down = false := by simpa using hd
    rw [hdf] at c4
    by_cases h0 : p < 0
    · have HD := Lib.hid (show r.doWrite p bs = (2, r) by unfold Rf.doWrite; rw [if_neg hd, if_pos (by omega)])
      clear hd hdf
      unfold txt
      go_enter Try.func31, Try.ntmps31
      go_wp2
      go_ret
      rw [HD.out]
      exact ⟨rfl, ⟨_, _, H.out⟩, Turned.refl _ _ _⟩
    · by_cases hn : r.N ≤ p
      · have HD := Lib.hid (show r.doWrite p bs = (2, r) by unfold Rf.doWrite; rw [if_neg hd, if_pos (by omega)])
        clear hd hdf
        unfold txt
        go_enter Try.func31, Try.ntmps31
        go_wp2
        go_ret
        rw [HD.out]
        exact ⟨rfl, ⟨_, _, H.out⟩, Turned.refl _ _ _⟩
      · obtain ⟨q, rfl⟩ := Int.eq_ofNat_of_zero_le (show 0 ≤ p by omega)
        by_cases hl : bs.length = 128
        · have hsz : ((ByteArray.mk bs.toArray).size : Int) = 128 := by rw [string_size, hl]; rfl
          by_cases hc : r.can = true
          · have HD := Lib.hid (show r.doWrite (q : Int) bs = (0, { r.spent with waits := r.waits ++ [(q, bs)] }) by unfold Rf.doWrite; rw [if_neg hd, if_neg (by omega), if_neg (by omega), if_neg (by rw [hc]; decide)]; simp)
            have HC := Lib.hid hc
            clear hd hdf hc
            unfold txt
            go_enter Try.func31, Try.ntmps31
            go_wp2_with fail
            refine (rthrough_at H.out).mono ?_
            rintro e w2 ⟨rfl, R2, T2⟩
            rw [HC.out]
            have hsp := spent_frame r
            obtain ⟨v1, w3, v2, w4, run1, run2, o4, b4⟩ := push_runs w2 R2.waits (wz_one _) R2.few.2 (by have := R2.lo; have := R2.lt; omega) (q : Int) bs 28 28
            rw [← wz_snoc, hsp.2.1, show r.waits.length + 1 = (r.waits ++ [(q, bs)]).length by simp] at o4
            obtain ⟨A2, cap2, hv2, _, _, _⟩ := own_form o4
            rw [show (r.waits ++ [(q, bs)]).length = r.waits.length + 1 by simp] at hv2
            subst hv2
            have R4 := R2.below b4
            have R5 := RAt.waits' (n := 0) R4 _ o4 (by simp; omega)
            have c2 : (w2.alloc (.cells #[] 99)).cell? ⟨rb, 2, none⟩ = some wv := still_there R2.c2
            have d2 := R4.c2
            have f2 := R4.f 2
            have HR5 := Lib.hid R5
            have HT5 := Lib.hid ((T2.trans (Turned.of_below b4)).setCell (p := ⟨rb, 2, none⟩) R4.lo R4.head rfl (.slice A2 (r.waits.length + 1) cap2))
            clear R2 T2 R4 R5 b4 o4 c0 c4 hsp
            unfold txt at run2
            go_wp2_with (first | (at_builtin; refine wpList_append_run rfl (.tmp 30) (.tmp 34) 28 rfl _ _ rfl rfl _ w3 run1 ?_) | (at_builtin; refine wpList_append_run rfl (.tmp 35) (.tmp 39) 28 rfl _ _ rfl rfl _ w4 run2 ?_))
            go_ret
            rw [HD.out]
            exact ⟨rfl, ⟨_, _, HR5.out⟩, HT5.out⟩
          · have hcf : r.can = false := by simpa using hc
            have HD := Lib.hid (show r.doWrite (q : Int) bs = (20, r.spent) by unfold Rf.doWrite; rw [if_neg hd, if_neg (by omega), if_neg (by omega), if_pos hcf])
            have HC := Lib.hid hcf
            clear hd hdf hc hcf
            unfold txt
            go_enter Try.func31, Try.ntmps31
            go_wp2_with fail
            refine (rthrough_at H.out).mono ?_
            rintro e w2 ⟨rfl, R2, T2⟩
            rw [HC.out]
            have HR2 := Lib.hid R2
            have HT2 := Lib.hid T2
            clear R2 T2 c0 c4
            go_wp2_with fail
            go_ret
            rw [HD.out]
            exact ⟨rfl, ⟨_, _, HR2.out⟩, HT2.out⟩
        · have HD := Lib.hid (show r.doWrite (q : Int) bs = (2, r) by unfold Rf.doWrite; rw [if_neg hd, if_neg (by omega), if_pos hl])
          have hsz : ((ByteArray.mk bs.toArray).size : Int) ≠ 128 := by rw [string_size]; omega
          clear hd hdf
          unfold txt
          go_enter Try.func31, Try.ntmps31
          go_wp2
          go_ret
          rw [HD.out]
          exact ⟨rfl, ⟨_, _, H.out⟩, Turned.refl _ _ _⟩

/-! ### Cached -/
def RCached (w : World) (zs : List Int) (e : Ending) (w' : World) : Prop := ∃ A cap, e = .returned (.slice A zs.length cap) ∧ Ints w' A zs ∧ Below w.heap.size w w'
theorem int_row : (Try.prog.info? 3).map (fun i => (i.zero, i.size, i.bytes)) = some (some (.int .i64 0), 1, 8) := by kernel_rfl
def Grown (w : World) (base : Nat) (v : Value) (zs : List Int) : Prop := w.ownsRow base 3 1 v zs.length (ints zs)
theorem Grown.ints {w : World} {base : Nat} {v : Value} {zs : List Int} (h : Grown w base v zs) : ∃ A cap, v = .slice A zs.length cap ∧ Ints w A zs := by
  rcases h.2 with ⟨rfl, h0⟩ | ⟨g, c, cur, rfl, hb, hg, _⟩
  · exact ⟨none, 0, by rw [h0], .inl (List.eq_nil_of_length_eq_zero h0)⟩
  · refine ⟨_, c, rfl, .inr ⟨g, 0, rfl, fun i hi => ?_⟩⟩
    have := World.ownsRow.cells h (g := g) rfl i (.int .i64 zs[i]) (by simp [Dsk.ints, hi])
    rwa [Oct.add_plain] at this
theorem grown_put {w : World} {base : Nat} {v : Value} {zs : List Int} (h : Grown w base v zs) (hk : zs.length < 10000000) (hbase : base ≤ w.heap.size) (z : Int) (ty : TypeId) :
    ∃ v' w', (Builtin.append_ #[49, 49] ty #[v, .slice (some ⟨w.heap.size, 0, none⟩) 1 1]).run Try.prog (w.alloc (.cells #[.int .i64 z] 3)) = .ok v' w' ∧ Grown w' base v' (zs ++ [z]) ∧ Below base w w' := by
  obtain ⟨i0, hi, hz0, hz1, hz2⟩ := info_parts int_row
  have hn := heap_alloc_new w (.cells #[.int .i64 z] 3)
  obtain ⟨v', w2, hrun, ho, hg, _⟩ := run_append_own (P := Try.prog) (w.alloc (.cells #[.int .i64 z] 3)) base 49 ty 3 i0 (.int .i64 0) 1 8 Try.underlying49 hi hz0 hz1 hz2 rfl (by decide) v zs.length (ints zs) (World.ownsRow.alloc h _) ⟨w.heap.size, 0, none⟩ 1 1 [.int .i64 z] rfl
    (fun j u hj => by
      cases j with
      | zero => simp at hj; subst hj; exact cell_of_row _ _ 0 _ _ _ hn
      | succ j => simp at hj)
    (fun u hu => by simp at hu; subst hu; rfl) (by unfold maxLen; omega) (by omega) (by simp; omega)
  refine ⟨v', w2, hrun, ?_, ?_⟩
  · show w2.ownsRow base 3 1 v' (zs ++ [z]).length (ints (zs ++ [z]))
    rw [List.length_append, show ints (zs ++ [z]) = ints zs ++ [.int .i64 z] by simp [Dsk.ints]]
    exact ho
  · exact ((Below.refl base w).alloc hbase _).grown hg (by simp; omega) (fun k hk => (World.ownsRow.lt h k hk).1)
def Rf.places (r : Rf) : List Int := r.waits.map fun x => (x.1 : Int)
set_option maxRecDepth 100000 in
set_option maxHeartbeats 800000 in
theorem rcached_at {w : World} {base rb : Nat} {cv wv : Value} {r : Rf} (h : RAt w base rb cv wv r) :
    Calls Try.prog 36 #[.pointer (some ⟨rb, 0, none⟩)] w (RCached w r.places) := by
  obtain ⟨A, cap, rfl, hc1, hc2, hA⟩ := own_form h.waits
  have hfew := h.few.2
  unfold maxLen at hc2
  have H := Lib.hid h
  have HA := Lib.hid hA
  clear h hA
  go_enter Try.func36, Try.ntmps36
  go_wp2_with fail
  go_loopw [3, 4] (fun v i wr => ∃ k : Nat, k ≤ r.waits.length ∧ i = .int .i64 (k : Int) ∧ Hid (Grown wr w.heap.size v (r.places.take k)) ∧ Below w.heap.size w wr) (fun _ i _ => r.waits.length - (intOf i).toNat)
  case atStart => exact ⟨0, Nat.zero_le _, rfl, Lib.hid (by rw [List.take_zero]; exact World.ownsRow_nil _ _ _ _), Below.refl _ _⟩
  case round =>
    obtain ⟨k, hk, rfl, HG, hB⟩ := hrel
    have HB := Lib.hid hB
    have HR := Lib.hid (H.out.below hB)
    have c2 := HR.out.c2
    clear hB
    by_cases hlt : k < r.waits.length
    · have hki : (k : Int) < (r.waits.length : Int) := by omega
      obtain ⟨g, rfl, _, _⟩ := HA.out (by omega)
      obtain ⟨d1, d2⟩ := own_wait HR.out.waits k hlt
      have hpl : r.places.length = r.waits.length := by simp [Rf.places]
      obtain ⟨v', w6, hrun, G6, B6⟩ := grown_put HG.out (by rw [List.length_take]; omega) HB.out.size (r.waits[k].1 : Int) 49
      have HG6 := Lib.hid (show Grown w6 w.heap.size v' (r.places.take (k + 1)) by rw [take_snoc r.places k (by omega)]; simpa [Rf.places] using G6)
      have HB6 := Lib.hid (HB.out.trans B6)
      clear G6 B6 hpl
      generalize r.waits[k] = x at d1 d2 hrun
      go_wp2_with (at_builtin; refine wpList_append_run rfl (.tmp 14) (.tmp 23) 49 rfl _ _ rfl rfl _ w6 hrun ?_)
      go_roundw
      case rel => exact ⟨k + 1, by omega, by go_num, HG6, HB6.out⟩
      case measure => simp [intOf]; omega
    · obtain rfl : k = r.waits.length := by omega
      have HG6 := Lib.hid (show Grown wr w.heap.size _ r.places by have := HG.out; rwa [List.take_of_length_le (by simp [Rf.places])] at this)
      obtain ⟨A', cap', rfl, hI⟩ := HG6.out.ints
      have HI := Lib.hid hI
      clear hI
      go_wp2
      go_ret
      exact ⟨A', cap', rfl, HI.out, HB.out⟩
end Go.Proofs.Ythcjhbjhghfhjaa.Dsk
