/- What Write does, where it is done. -/
import Derived.Test.YthcjhbjhghfhjaaDskG
namespace Go.Proofs.Ythcjhbjhghfhjaa.Dsk
open Go.RowKit Go.Proofs.Ythcjhbjhghfhjaa.Oct
set_option linter.unusedVariables false
set_option linter.unusedSimpArgs false

set_option maxRecDepth 100000 in
set_option maxHeartbeats 1600000 in
theorem write_ok {w : World} {base a bb bc : Nat} {wv : Value} {s : St} (h : At w base a bb bc wv s) (hg : s.gone = false) (hc : s.can = true) (hfew : s.W.length < 1000000) (p : Nat) (hp : p < s.n) (ba : Option Addr) (bcap : Nat) (bs : List UInt8) (hl : bs.length = 128) (hb : ∀ w', Turned dT base w w' → Oct.Told w' ba bs) :
    Calls Try.prog 25 #[.pointer (some ⟨a, 0, none⟩), .int .i64 (p : Int), .slice ba 128 bcap] w (WritePost w base a bb bc (s.spent.wrote p bs)) := by
  have c0 := h.c0
  have c2 := h.c2
  rw [hg] at c2
  have c5 := h.c5
  have H := Lib.hid h
  have HC := Lib.hid hc
  have HL := Lib.hid hl
  have HB := Lib.hid hb
  clear h hg hc hl hb
  go_enter Try.func25, Try.ntmps25
  go_wp2_with fail
  refine (made_self a _ c5).mono ?_
  rintro e w' ⟨rfl, rfl⟩
  go_wp2_with fail
  refine (has_yes a bb s.n bc p _ c0 (by omega) (by omega)).mono ?_
  rintro e w' ⟨rfl, rfl⟩
  go_wp2_with fail
  refine (spend_at H.out).mono ?_
  rintro e w1 ⟨rfl, A1, T1⟩
  rw [HC.out]
  have hfew1 : s.spent.W.length < 1000000 := hfew
  have hp1 : p < s.spent.n := hp
  generalize s.spent = s1 at *
  clear c0 c2 c5
  -- the local variable w, a block of its own
  have b2 : Below w1.heap.size w1 (w1.alloc (.cells (pz p) 91)) := (Below.refl _ _).alloc (Nat.le_refl _) _
  have R2 : (w1.alloc (.cells (pz p) 91)).heap[w1.heap.size]? = some (.cells (pz p).toList.toArray 91 (0, 0)) := heap_alloc_new w1 _
  have S2 : (w1.alloc (.cells (pz p) 91)).heap.size = w1.heap.size + 1 := by simp
  obtain ⟨w3, hcopy, R3, S3, b3⟩ := run_copy_into (w1.alloc (.cells (pz p) 91)) 3 w1.heap.size 1 128 128 _ _ R2 bs ba 128 bcap HL.out (HB.out _ (T1.trans (Turned.of_below b2))) (by omega) (by simp [pz, pc, vals])
  have hsp : splice (pz p).toList 1 (vals bs) = (pc p bs).toList := by
    have := HL.out
    simp [splice, pz, pc, length_vals, this]
  rw [hsp] at R3
  have b13 : Below w1.heap.size w1 w3 := b2.trans (b3.mono (by omega))
  have A3 := A1.below b13
  have T3 : Turned dT base w w3 := T1.trans (Turned.of_below b13)
  -- region 9
  have hz1 := (zero_of_info write_info).1 w1
  have hst := run_storeCells_new (P := Try.prog) w1 91 zc (pz p) (by rw [(zero_of_info write_info).2]; unfold pz; rw [pc_size]; simp) (by rw [zc_size]; unfold pz; rw [pc_size]; simp) (pc_one _ _)
  have hne := zc_ne
  have hzs := zc_size
  have hset := zc_set p
  have hps : (pz p).size = 129 := by unfold pz; rw [pc_size]; simp
  have HR3 := Lib.hid R3
  have HA3 := Lib.hid A3
  have HT3 := Lib.hid T3
  clear b2 R2 S2 R3 S3 b3 hsp b13 A3 T3 A1 T1
  go_wp2_with fail
  obtain ⟨q, hq⟩ : ∃ q, q = w1.heap.size := ⟨_, rfl⟩
  rw [← hq] at HR3 ⊢
  have HQ := Lib.hid hq
  clear hcopy hz1 hst hset hps hq hne hzs
  have c1 := HA3.out.c1
  obtain ⟨A, cap, hv, hwc, hm, hA⟩ := HA3.out.wform
  have HV := Lib.hid hv
  rw [hv] at c1
  have hps : (pc p bs).size = 129 := by rw [pc_size, HL.out]
  have HR4 := Lib.hid (show w3.drew.heap[q]? = some (.cells (pc p bs) 91 (0, 0)) from HR3.out)
  obtain ⟨ie, hie, hz0, hz1, hz2⟩ := info_parts write_row
  have hf : ∀ (cells : Array Value) (parts : List (Nat × Value)), cells.size = ie.size → parts = [(0, .agg (pc p bs))] → Instr.fill (fun i => some (i * ie.size, ie.size)) cells parts = some (pc p bs) := fun cells parts hcs hparts => by
    subst hparts
    rw [hz1]
    exact fill_one cells _ hps (by rw [hcs, hz1])
  have HF := Lib.hid hf
  have HIE := Lib.hid hie
  have HZ0 := Lib.hid hz0
  have HZ1 := Lib.hid hz1
  have HZ2 := Lib.hid hz2
  have HPS := Lib.hid hps
  have A4 := HA3.out.drew
  have T4 := HT3.out.drew
  have HM := Lib.hid hm
  clear hps hf hie hz0 hz1 hz2 hv hm hA
  have HA4 := Lib.hid A4
  have HT4 := Lib.hid T4
  have c1' : w3.drew.cell? ⟨a, 1, none⟩ = some (.slice A s1.W.length cap) := c1
  clear A4 T4 c1
  obtain ⟨w4, hw4⟩ : ∃ w4, w4 = w3.drew := ⟨_, rfl⟩
  refine wp_region_any (by kernel_rfl) ?_
  change wpAny _ _ _ _ _ _ _ (World.drew _)
  rw [← hw4] at HA4 HT4 c1' HR4 ⊢
  clear hw4
  refine wpAny_take (i := 0) (v := .pointer (some ⟨a, 0, none⟩)) rfl (by kernel_rfl) (by kernel_rfl) (by kernel_rfl) (fun _ _ _ h => h) (Or.inl ⟨rfl, fun w => by go_simp⟩) ?_
  refine wpAny_take (i := 1) (v := .pointer (some ⟨a, 0, none⟩)) rfl (by kernel_rfl) (by kernel_rfl) (by kernel_rfl) (fun _ _ _ h => h) (Or.inl ⟨rfl, fun w => by go_simp⟩) ?_
  refine wpAny_take (i := 2) (v := .pointer (some ⟨a, 0, none⟩)) rfl (by kernel_rfl) (by kernel_rfl) (by kernel_rfl) (fun _ _ _ h => h) (Or.inl ⟨rfl, fun w => by go_simp⟩) ?_
  refine wpAny_take (i := 3) (v := .pointer (some ⟨a, 1, none⟩)) rfl (by kernel_rfl) (by kernel_rfl) (by kernel_rfl) (fun _ _ _ h => h) (Or.inl ⟨rfl, fun w => by go_simp⟩) ?_
  refine wpAny_take (i := 4) (v := .pointer (some ⟨a, 1, none⟩)) rfl (by kernel_rfl) (by kernel_rfl) (by kernel_rfl) (fun _ _ _ h => h) (Or.inl ⟨rfl, fun w => by go_simp⟩) ?_
  simp only [Act.put, List.setIfInBounds_toArray, List.set_cons_zero, List.set_cons_succ]
  have B5 : Below w4.heap.size w4 (w4.alloc (.cells (pc p bs) 91)) := (Below.refl _ _).alloc (Nat.le_refl _) _
  have c15 : (w4.alloc (.cells (pc p bs) 91)).cell? ⟨a, 1, none⟩ = some (.slice A s1.W.length cap) := (B5.cell (p := ⟨a, 1, none⟩) HA4.out.lt).trans c1'
  have HB5 := Lib.hid B5
  clear B5
  refine wpAny_ready (rs := [5, 6]) (by kernel_rfl) (by simp) ?_
  refine AllReady.cons rfl (fun K hK => ?_) (AllReady.cons rfl (fun K hK => ?_) AllReady.nil)
  · go_simp
    refine hK _ _ ?_
    clear hK K
    try simp only [Act.put, List.setIfInBounds_toArray, List.set_cons_zero, List.set_cons_succ]
    refine wpAny_ready (rs := [6]) (by kernel_rfl) (by simp) ?_
    refine AllReady.cons rfl (fun K hK => ?_) AllReady.nil
    simp only [List.getElem_toArray, List.getElem_cons_succ, List.getElem_cons_zero]
    refine if_wanted (by rfl) ?_
    refine wp_load_row 91 (.tmp 7) rfl q rfl _ _ _ _ HR4.out Try.underlying91 rfl (by rw [HIE.out]; exact congrArg some (HZ1.out.trans HPS.out.symm)) ?_
    refine hK _ _ ?_
    clear hK K
    try simp only [Act.put, List.setIfInBounds_toArray, List.set_cons_zero, List.set_cons_succ]
    refine wpAny_ready (rs := [7]) (by kernel_rfl) (by simp) ?_
    refine AllReady.cons rfl (fun K hK => ?_) AllReady.nil
    simp only [List.getElem_toArray, List.getElem_cons_succ, List.getElem_cons_zero]
    refine if_wanted (by rfl) ?_
    refine wp_buildSlice 73 91 1 _ rfl (pc p bs) ie (.agg zc) Try.underlying73 HIE.out HZ0.out (by rw [HZ1.out]; decide) (by rw [HZ1.out]; decide) (HF.out _ _ (by simp) (by simp [Act.put, Act.eval])) ?_
    refine hK _ _ ?_
    clear hK K
    try simp only [Act.put, List.setIfInBounds_toArray, List.set_cons_zero, List.set_cons_succ]
    refine wpAny_tail 8 (by rfl) (by kernel_rfl) ?_
    simp only [List.drop_succ_cons, List.drop_zero]
    have A5 := HA4.out.below HB5.out
    have T5 : Turned dT base w4 (w4.alloc (.cells (pc p bs) 91)) := Turned.of_below HB5.out
    have R5 := heap_alloc_new w4 (.cells (pc p bs) 91)
    obtain ⟨r, hr⟩ : ∃ r, r = w4.heap.size := ⟨_, rfl⟩
    rw [← hr] at R5 ⊢
    generalize w4.alloc (.cells (pc p bs) 91) = w5 at *
    obtain ⟨v', w6, hrun, ho6, hg6, _⟩ := run_append_own (P := Try.prog) w5 base 73 73 91 ie (.agg zc) 129 136 Try.underlying73 HIE.out HZ0.out HZ1.out HZ2.out zc_size (by decide) wv s1.W.length (wcells s1.W) A5.waits ⟨r, 0, none⟩ 1 1 (pc p bs).toList
      (by simpa using HPS.out)
      (fun j u hu => by rw [add_plain, Nat.zero_add, cell_of_row w5 r j _ _ _ R5]; simpa using hu)
      (fun u hu => Array.all_eq_true_iff_forall_mem.1 (pc_one p bs) u (by simpa using hu))
      (by unfold maxLen; omega) (by omega) (by have := A5.lo; have := A5.lt; omega)
    obtain ⟨g6, cap6, rfl⟩ : ∃ g c, v' = .slice (some ⟨g, 0, none⟩) (s1.W.length + 1) c := by
      rcases ho6.2 with ⟨_, h0⟩ | ⟨g, c, cur, hv, _⟩
      · omega
      · exact ⟨g, c, hv⟩
    obtain ⟨A6, k1, f1, T6⟩ := A5.wrote p bs hp1 HL.out hfew1 ho6 hg6
    have HA6 := Lib.hid A6
    have HT6 := Lib.hid (HT4.out.trans (T5.trans T6))
    rw [HV.out] at hrun k1
    clear hr A6 T6 T5 A5 ho6 hg6 R5 c1'
    refine wpList_append_run rfl (.tmp 47) (.tmp 49) 73 rfl _ _ (by simp [Act.put, Act.eval]) (by simp [Act.put, Act.eval]) _ w6 hrun ?_
    clear hrun
    go_wp2_with fail
    go_ret
    exact ⟨_, rfl, HA6.out, HT6.out⟩
  · simp only [List.getElem_toArray, List.getElem_cons_succ, List.getElem_cons_zero]
    refine if_wanted (by rfl) ?_
    refine wp_load_row 91 (.tmp 7) rfl q rfl _ _ _ _ HR4.out Try.underlying91 rfl (by rw [HIE.out]; exact congrArg some (HZ1.out.trans HPS.out.symm)) ?_
    refine hK _ _ ?_
    clear hK K
    try simp only [Act.put, List.setIfInBounds_toArray, List.set_cons_zero, List.set_cons_succ]
    refine wpAny_ready (rs := [5, 7]) (by kernel_rfl) (by simp) ?_
    refine AllReady.cons rfl (fun K hK => ?_) (AllReady.cons rfl (fun K hK => ?_) AllReady.nil)
    · go_simp
      refine hK _ _ ?_
      clear hK K
      try simp only [Act.put, List.setIfInBounds_toArray, List.set_cons_zero, List.set_cons_succ]
      refine wpAny_ready (rs := [7]) (by kernel_rfl) (by simp) ?_
      refine AllReady.cons rfl (fun K hK => ?_) AllReady.nil
      simp only [List.getElem_toArray, List.getElem_cons_succ, List.getElem_cons_zero]
      refine if_wanted (by rfl) ?_
      refine wp_buildSlice 73 91 1 _ rfl (pc p bs) ie (.agg zc) Try.underlying73 HIE.out HZ0.out (by rw [HZ1.out]; decide) (by rw [HZ1.out]; decide) (HF.out _ _ (by simp) (by simp [Act.put, Act.eval])) ?_
      refine hK _ _ ?_
      clear hK K
      try simp only [Act.put, List.setIfInBounds_toArray, List.set_cons_zero, List.set_cons_succ]
      refine wpAny_tail 8 (by rfl) (by kernel_rfl) ?_
      simp only [List.drop_succ_cons, List.drop_zero]
      have A5 := HA4.out.below HB5.out
      have T5 : Turned dT base w4 (w4.alloc (.cells (pc p bs) 91)) := Turned.of_below HB5.out
      have R5 := heap_alloc_new w4 (.cells (pc p bs) 91)
      obtain ⟨r, hr⟩ : ∃ r, r = w4.heap.size := ⟨_, rfl⟩
      rw [← hr] at R5 ⊢
      generalize w4.alloc (.cells (pc p bs) 91) = w5 at *
      obtain ⟨v', w6, hrun, ho6, hg6, _⟩ := run_append_own (P := Try.prog) w5 base 73 73 91 ie (.agg zc) 129 136 Try.underlying73 HIE.out HZ0.out HZ1.out HZ2.out zc_size (by decide) wv s1.W.length (wcells s1.W) A5.waits ⟨r, 0, none⟩ 1 1 (pc p bs).toList
        (by simpa using HPS.out)
        (fun j u hu => by rw [add_plain, Nat.zero_add, cell_of_row w5 r j _ _ _ R5]; simpa using hu)
        (fun u hu => Array.all_eq_true_iff_forall_mem.1 (pc_one p bs) u (by simpa using hu))
        (by unfold maxLen; omega) (by omega) (by have := A5.lo; have := A5.lt; omega)
      obtain ⟨g6, cap6, rfl⟩ : ∃ g c, v' = .slice (some ⟨g, 0, none⟩) (s1.W.length + 1) c := by
        rcases ho6.2 with ⟨_, h0⟩ | ⟨g, c, cur, hv, _⟩
        · omega
        · exact ⟨g, c, hv⟩
      obtain ⟨A6, k1, f1, T6⟩ := A5.wrote p bs hp1 HL.out hfew1 ho6 hg6
      have HA6 := Lib.hid A6
      have HT6 := Lib.hid (HT4.out.trans (T5.trans T6))
      rw [HV.out] at hrun k1
      clear hr A6 T6 T5 A5 ho6 hg6 R5 c1'
      refine wpList_append_run rfl (.tmp 47) (.tmp 49) 73 rfl _ _ (by simp [Act.put, Act.eval]) (by simp [Act.put, Act.eval]) _ w6 hrun ?_
      clear hrun
      go_wp2_with fail
      go_ret
      exact ⟨_, rfl, HA6.out, HT6.out⟩
    · simp only [List.getElem_toArray, List.getElem_cons_succ, List.getElem_cons_zero]
      refine if_wanted (by rfl) ?_
      refine wp_buildSlice 73 91 1 _ rfl (pc p bs) ie (.agg zc) Try.underlying73 HIE.out HZ0.out (by rw [HZ1.out]; decide) (by rw [HZ1.out]; decide) (HF.out _ _ (by simp) (by simp [Act.put, Act.eval])) ?_
      refine hK _ _ ?_
      clear hK K
      try simp only [Act.put, List.setIfInBounds_toArray, List.set_cons_zero, List.set_cons_succ]
      refine wpAny_ready (rs := [5]) (by kernel_rfl) (by simp) ?_
      refine AllReady.cons rfl (fun K hK => ?_) AllReady.nil
      go_simp
      refine hK _ _ ?_
      clear hK K
      try simp only [Act.put, List.setIfInBounds_toArray, List.set_cons_zero, List.set_cons_succ]
      refine wpAny_tail 8 (by rfl) (by kernel_rfl) ?_
      simp only [List.drop_succ_cons, List.drop_zero]
      have A5 := HA4.out.below HB5.out
      have T5 : Turned dT base w4 (w4.alloc (.cells (pc p bs) 91)) := Turned.of_below HB5.out
      have R5 := heap_alloc_new w4 (.cells (pc p bs) 91)
      obtain ⟨r, hr⟩ : ∃ r, r = w4.heap.size := ⟨_, rfl⟩
      rw [← hr] at R5 ⊢
      generalize w4.alloc (.cells (pc p bs) 91) = w5 at *
      obtain ⟨v', w6, hrun, ho6, hg6, _⟩ := run_append_own (P := Try.prog) w5 base 73 73 91 ie (.agg zc) 129 136 Try.underlying73 HIE.out HZ0.out HZ1.out HZ2.out zc_size (by decide) wv s1.W.length (wcells s1.W) A5.waits ⟨r, 0, none⟩ 1 1 (pc p bs).toList
        (by simpa using HPS.out)
        (fun j u hu => by rw [add_plain, Nat.zero_add, cell_of_row w5 r j _ _ _ R5]; simpa using hu)
        (fun u hu => Array.all_eq_true_iff_forall_mem.1 (pc_one p bs) u (by simpa using hu))
        (by unfold maxLen; omega) (by omega) (by have := A5.lo; have := A5.lt; omega)
      obtain ⟨g6, cap6, rfl⟩ : ∃ g c, v' = .slice (some ⟨g, 0, none⟩) (s1.W.length + 1) c := by
        rcases ho6.2 with ⟨_, h0⟩ | ⟨g, c, cur, hv, _⟩
        · omega
        · exact ⟨g, c, hv⟩
      obtain ⟨A6, k1, f1, T6⟩ := A5.wrote p bs hp1 HL.out hfew1 ho6 hg6
      have HA6 := Lib.hid A6
      have HT6 := Lib.hid (HT4.out.trans (T5.trans T6))
      rw [HV.out] at hrun k1
      clear hr A6 T6 T5 A5 ho6 hg6 R5 c1'
      refine wpList_append_run rfl (.tmp 47) (.tmp 49) 73 rfl _ _ (by simp [Act.put, Act.eval]) (by simp [Act.put, Act.eval]) _ w6 hrun ?_
      clear hrun
      go_wp2_with fail
      go_ret
      exact ⟨_, rfl, HA6.out, HT6.out⟩
end Go.Proofs.Ythcjhbjhghfhjaa.Dsk
