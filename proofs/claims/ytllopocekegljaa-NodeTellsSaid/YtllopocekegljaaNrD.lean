/- Layer 12, the reference: the contract of Both. (Written by bin/gen_nrd.py.) -/
import Derived.Test.YtllopocekegljaaNrC
namespace Go.Proofs.Ytllopocekegljaa.No
open Go.RowKit Go.Proofs.Ytllopocekegljaa.Oct Go.Proofs.Ytllopocekegljaa.Lf Go.Proofs.Ytllopocekegljaa.Mv
set_option linter.unusedVariables false
set_option linter.unusedSimpArgs false

theorem mids_all {ns : List UInt64} {n : Nat} (h : ns.length = n) : mids ns 0 n = ns := by rw [mids_tail 0 h]; rfl
/-- A node's variable with two rows of the call's own, apart from one another and from it. -/
structure Tw (w : World) (base q : Nat) (l : Bool) (vk vv : Value) (ks vs : List UInt64) : Prop where
  row : RowV w q 24 [.bool l, vk, vv]
  ok : OwnN w base vk ks
  ov : OwnN w base vv vs
  ne : ∀ k, vk.ownBlock = some k → vv.ownBlock ≠ some k
  qk : vk.ownBlock ≠ some q
  qv : vv.ownBlock ≠ some q
  bq : base ≤ q
  bw : base ≤ w.heap.size
theorem Tw.appK {w w' : World} {base q : Nat} {l : Bool} {vk vv v' : Value} {ks vs ns : List UInt64} (h : Tw w base q l vk vv ks vs) (ho : OwnN w' base v' ns) (hg : w.grownBy w' vk.ownBlock) (hl : v'.ownBlock = vk.ownBlock ∨ v'.ownBlock = some w.heap.size) : Tw (w'.setCell ⟨q, 1, none⟩ v') base q l v' vv ns vs := by
  have hql := h.row.lt
  have hq' : v'.ownBlock ≠ some q := fun e => by
    rcases hl with hl | hl
    · exact h.qk (hl.symm.trans e)
    · have := Option.some.inj (hl.symm.trans e)
      omega
  have r1 := h.row.block (hg.block q hql (fun e => h.qk e.symm))
  refine ⟨r1.set 1 v', ho.same (fun k e _ => heap_setCell_other _ _ _ _ (fun e2 => hq' (by rw [e]; exact congrArg some e2))), ?_, fun k e e2 => ?_, hq', h.qv, h.bq, by rw [World.size_setCell]; exact Nat.le_trans h.bw hg.size⟩
  · exact (h.ov.same (fun k e hk => hg.block k hk (fun e2 => h.ne k e2.symm e))).same (fun k e _ => heap_setCell_other _ _ _ _ (fun e2 => h.qv (by rw [e]; exact congrArg some e2)))
  · rcases hl with hl | hl
    · exact h.ne k (by rw [← hl]; exact e) e2
    · have h1 : k = w.heap.size := by rw [hl] at e; exact (Option.some.inj e).symm
      have h2 := (World.ownsRow.lt h.ov k e2).2
      omega
theorem Tw.appV {w w' : World} {base q : Nat} {l : Bool} {vk vv v' : Value} {ks vs ns : List UInt64} (h : Tw w base q l vk vv ks vs) (ho : OwnN w' base v' ns) (hg : w.grownBy w' vv.ownBlock) (hl : v'.ownBlock = vv.ownBlock ∨ v'.ownBlock = some w.heap.size) : Tw (w'.setCell ⟨q, 2, none⟩ v') base q l vk v' ks ns := by
  have hql := h.row.lt
  have hq' : v'.ownBlock ≠ some q := fun e => by
    rcases hl with hl | hl
    · exact h.qv (hl.symm.trans e)
    · have := Option.some.inj (hl.symm.trans e)
      omega
  have r1 := h.row.block (hg.block q hql (fun e => h.qv e.symm))
  refine ⟨r1.set 2 v', ?_, ho.same (fun k e _ => heap_setCell_other _ _ _ _ (fun e2 => hq' (by rw [e]; exact congrArg some e2))), fun k e e2 => ?_, h.qk, hq', h.bq, by rw [World.size_setCell]; exact Nat.le_trans h.bw hg.size⟩
  · exact (h.ok.same (fun k e hk => hg.block k hk (fun e2 => h.ne k e e2.symm))).same (fun k e _ => heap_setCell_other _ _ _ _ (fun e2 => h.qk (by rw [e]; exact congrArg some e2)))
  · rcases hl with hl | hl
    · exact h.ne k e (by rw [← hl]; exact e2)
    · have h1 : k = w.heap.size := by rw [hl] at e2; exact (Option.some.inj e2).symm
      have h2 := (World.ownsRow.lt h.ok k e).2
      omega
theorem Tw.below1 {w w' : World} {base q : Nat} {l : Bool} {vk vv v' : Value} {ks vs : List UInt64} (h : Tw w base q l vk vv ks vs) {i : Nat} (hg : Below base w w') : Below base w (w'.setCell ⟨q, i, none⟩ v') := hg.setCell (p := ⟨q, i, none⟩) h.bq _

set_option maxRecDepth 100000 in
set_option maxHeartbeats 4000000 in
theorem both_any (l l' : Bool) {w : World} {A B A' B' : Option Addr} {n c d n' c' m' d' : Nat} {ks vs ks' vs' : List UInt64} (h : Nd w A n c B n d ks vs) (h' : Nd w A' n' c' B' m' d' ks' vs') (hsz : n ≤ 400) (hsz1 : n' ≤ 400) (hsz2 : m' ≤ 400) :
    Calls Try.prog 35 #[.agg #[.bool l, .slice A n c, .slice B n d], .agg #[.bool l', .slice A' n' c', .slice B' m' d']] w fun e w' => ∃ v, e = .returned v ∧ OwnT w' w.heap.size v l (ks ++ ks') (vs ++ vs') ∧ Below w.heap.size w w' := by
  have b1 := (Below.refl w.heap.size w).alloc (Nat.le_refl _) (.cells #[.bool l, .slice A n c, .slice B n d] 24)
  have b2 := b1.alloc b1.size (.cells #[.bool l', .slice A' n' c', .slice B' m' d'] 24)
  have BB := Lib.hid (b2.alloc b2.size (.cells #[.bool false, .slice none 0 0, .slice none 0 0] 24))
  have HBX := Lib.hid (((box_d w (.bool l) (.slice A n c) (.slice B n d)).new (.cells #[.bool l', .slice A' n' c', .slice B' m' d'] 24)).new (.cells #[.bool false, .slice none 0 0, .slice none 0 0] 24))
  have HBY := Lib.hid ((box_d (w.alloc (.cells #[.bool l, .slice A n c, .slice B n d] 24)) (.bool l') (.slice A' n' c') (.slice B' m' d')).new (.cells #[.bool false, .slice none 0 0, .slice none 0 0] 24)).of
  have HR := Lib.hid (box_d ((w.alloc (.cells #[.bool l, .slice A n c, .slice B n d] 24)).alloc (.cells #[.bool l', .slice A' n' c', .slice B' m' d'] 24)) (.bool false) (.slice none 0 0) (.slice none 0 0))
  rw [show (w.alloc (.cells #[.bool l, .slice A n c, .slice B n d] 24)).heap.size = w.heap.size + 1 by simp] at HBY
  rw [show ((w.alloc (.cells #[.bool l, .slice A n c, .slice B n d] 24)).alloc (.cells #[.bool l', .slice A' n' c', .slice B' m' d'] 24)).heap.size = w.heap.size + 2 by simp] at HR
  have hz := node_zero
  have hs3 : (((w.alloc (.cells #[.bool l, .slice A n c, .slice B n d] 24)).alloc (.cells #[.bool l', .slice A' n' c', .slice B' m' d'] 24)).alloc (.cells #[.bool false, .slice none 0 0, .slice none 0 0] 24)).heap.size = w.heap.size + 3 := by simp
  have HN := Lib.hid (h.below BB.out)
  have HM0 := Lib.hid h'
  have hkl := h.kl
  have hvl := h.vl
  have x1 := HBX.out.of.cellAt (i := 1) rfl
  clear h h' b1 b2
  go_enter Try.func35, Try.ntmps35
  go_wp2_with (first | (refine wpList_load_d rfl (.tmp 2) rfl w.heap.size _ rfl HBX.out ?_))
  generalize ((w.alloc (.cells #[.bool l, .slice A n c, .slice B n d] 24)).alloc (.cells #[.bool l', .slice A' n' c', .slice B' m' d'] 24)).alloc (.cells #[.bool false, .slice none 0 0, .slice none 0 0] 24) = w1 at *
  refine (part_any l HN.out 0 n (Nat.zero_le _) (Nat.le_refl _) hsz).mono ?_
  rintro e w3 ⟨v, rfl, ow, kz⟩
  rw [mids_all hkl, mids_all hvl, hs3] at ow
  obtain ⟨A1, c1, B1, d1, rfl, o1, o2, hne⟩ := ow
  rw [hkl] at o1 hne ⊢
  rw [hvl] at o2 hne ⊢
  have hw3 : w.heap.size + 3 ≤ w3.heap.size := by have := kz.size; omega
  have O12 := Lib.hid (And.intro o1 (And.intro o2 hne))
  replace HBY := Lib.hid (HBY.out.below HBY.out.lt kz)
  replace HR := Lib.hid (HR.out.below HR.out.lt kz)
  replace BB := Lib.hid (BB.out.trans (kz.mono BB.out.size))
  clear kz x1 HBX HN o1 o2 hne hs3
  have HZR := Lib.hid (alloc_rowV w3 24 [.bool false, .slice none 0 0, .slice none 0 0])
  have HQZ := Lib.hid ((Below.refl w3.heap.size w3).alloc (Nat.le_refl _) (.cells #[.bool false, .slice none 0 0, .slice none 0 0] 24))
  go_upto_region 2 with (first | (refine wpList_store_row rfl 24 (.tmp 5) (.tmp 10) rfl w3.heap.size #[.bool l, .slice A1 n c1, .slice B1 n d1] rfl rfl _ _ HZR.out node_size rfl (ones l rfl rfl) ?_))
  have hR : RowV ((w3.alloc (.cells #[.bool false, .slice none 0 0, .slice none 0 0] 24)).setRow w3.heap.size #[.bool l, .slice A1 n c1, .slice B1 n d1]) w3.heap.size 24 [.bool l, .slice A1 n c1, .slice B1 n d1] := row_set (us := [.bool l, .slice A1 n c1, .slice B1 n d1]) HZR.out
  have kv := HQZ.out.trans (row_below #[.bool l, .slice A1 n c1, .slice B1 n d1] (Nat.le_refl _))
  clear HZR HQZ
  have HT := Lib.hid (show Tw ((w3.alloc (.cells #[.bool false, .slice none 0 0, .slice none 0 0] 24)).setRow w3.heap.size #[.bool l, .slice A1 n c1, .slice B1 n d1]) (w.heap.size + 3) w3.heap.size l (.slice A1 n c1) (.slice B1 n d1) ks vs from ⟨hR, own_at O12.out.1 kv, own_at O12.out.2.1 kv, O12.out.2.2, fun e => (by have := (World.ownsRow.lt O12.out.1 _ e).2; omega), fun e => (by have := (World.ownsRow.lt O12.out.2.1 _ e).2; omega), hw3, Nat.le_trans hw3 kv.size⟩)
  replace HBY := Lib.hid (HBY.out.below HBY.out.lt kv)
  replace HR := Lib.hid (HR.out.below HR.out.lt kv)
  replace BB := Lib.hid (BB.out.trans (kv.mono BB.out.size))
  obtain ⟨q, hq⟩ : ∃ q, q = w3.heap.size := ⟨_, rfl⟩
  clear kv hR O12
  generalize (w3.alloc (.cells #[.bool false, .slice none 0 0, .slice none 0 0] 24)).setRow w3.heap.size #[.bool l, .slice A1 n c1, .slice B1 n d1] = w4 at *
  rw [← hq] at HT ⊢
  clear hq
  have HM := Lib.hid (HM0.out.below BB.out)
  obtain ⟨v5, w5, hrun, on, gn, ln⟩ := run_append_any w4 (w.heap.size + 3) 22 (.slice A1 n c1) ks HT.out.ok A' n' c' ks' HM.out.kl HM.out.ks HT.out.bw (by omega)
  have q1 := HT.out.row.cellAt (i := 1) rfl
  have y1 := HBY.out.cellAt (i := 1) rfl
  have kb := own_below HT.out.ok HT.out.bw gn
  obtain ⟨A5, c5, e5, _⟩ := on.slice
  subst e5
  have hnn : (ks ++ ks').length = n + n' := by rw [List.length_append, hkl, HM.out.kl]
  rw [hnn] at on hrun ln
  have HON := Lib.hid on
  have HG := Lib.hid gn
  have HLN := Lib.hid ln
  have r5 := HT.out.row.block (gn.block q HT.out.row.lt (fun e => HT.out.qk e.symm))
  have q5 := r5.cellAt (i := 1) rfl
  have f5 := r5.free 1
  have KB := Lib.hid kb
  clear on gn ln kb r5 hnn
  go_upto_region 3 with (first | (at_builtin; refine wpList_append_run rfl (.tmp 12) (.tmp 14) 22 rfl _ _ rfl rfl _ w5 hrun ?_))
  have HT6 := Lib.hid (HT.out.appK HON.out HG.out HLN.out)
  have k6 := HT.out.below1 (i := 1) (v' := .slice A5 (n + n') c5) KB.out
  replace HBY := Lib.hid (HBY.out.below (by omega) k6)
  replace HR := Lib.hid (HR.out.below (by omega) k6)
  replace BB := Lib.hid (BB.out.trans (k6.mono (by omega)))
  clear k6 hrun q1 y1 q5 f5 HON HG HLN KB HT HM
  generalize w5.setCell ⟨q, 1, none⟩ (.slice A5 (n + n') c5) = w6 at *
  have HM := Lib.hid (HM0.out.below BB.out)
  obtain ⟨v7, w7, hrun, on, gn, ln⟩ := run_append_any w6 (w.heap.size + 3) 22 (.slice B1 n d1) vs HT6.out.ov B' m' d' vs' HM.out.vl HM.out.vs HT6.out.bw (by omega)
  have q1 := HT6.out.row.cellAt (i := 2) rfl
  have y1 := HBY.out.cellAt (i := 2) rfl
  have kb := own_below HT6.out.ov HT6.out.bw gn
  obtain ⟨A7, c7, e7, _⟩ := on.slice
  subst e7
  have hnn : (vs ++ vs').length = n + m' := by rw [List.length_append, hvl, HM.out.vl]
  rw [hnn] at on hrun ln
  have HON := Lib.hid on
  have HG := Lib.hid gn
  have HLN := Lib.hid ln
  have r5 := HT6.out.row.block (gn.block q HT6.out.row.lt (fun e => HT6.out.qv e.symm))
  have q5 := r5.cellAt (i := 2) rfl
  have f5 := r5.free 2
  have KB := Lib.hid kb
  clear on gn ln kb r5 hnn
  go_upto_region 4 with (first | (at_builtin; refine wpList_append_run rfl (.tmp 18) (.tmp 20) 22 rfl _ _ rfl rfl _ w7 hrun ?_))
  have HT8 := Lib.hid (HT6.out.appV HON.out HG.out HLN.out)
  have k8 := HT6.out.below1 (i := 2) (v' := .slice A7 (n + m') c7) KB.out
  replace HR := Lib.hid (HR.out.below (by omega) k8)
  replace BB := Lib.hid (BB.out.trans (k8.mono (by omega)))
  clear k8 hrun q1 y1 q5 f5 HON HG HLN KB HT6 HM HBY
  generalize w7.setCell ⟨q, 2, none⟩ (.slice A7 (n + m') c7) = w8 at *
  have HO := Lib.hid (show OwnD w8 (w.heap.size + 3) (.agg #[.bool l, .slice A5 (n + n') c5, .slice A7 (n + m') c7]) l (ks ++ ks') (vs ++ vs') from ⟨_, _, rfl, HT8.out.ok, HT8.out.ov⟩)
  have HX := Lib.hid (row_d HT8.out.row)
  have HNE := Lib.hid HT8.out.ne
  clear HT8
  go_wp2_with (first | (refine wpList_load_d rfl (.tmp 5) rfl q _ rfl HX.out ?_) | (refine wpList_store_d rfl (.tmp 4) (.tmp 23) rfl (w.heap.size + 2) (w.heap.size + 3) _ _ _ _ _ rfl rfl HR.out HO.out ?_; intro cs HC))
  exact bodyPost_ret (v := _) (res_one rfl _ rfl HC) rfl ⟨_, rfl, own_apart (HO.out.row cs (by omega)) HNE.out (by omega), BB.out.trans (row_below cs (by omega))⟩
end Go.Proofs.Ytllopocekegljaa.No
