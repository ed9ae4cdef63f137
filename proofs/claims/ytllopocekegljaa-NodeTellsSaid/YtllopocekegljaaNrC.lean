/- Layer 12, the reference: contracts of Part and Both. (Written by bin/gen_nrc.py.) -/
import Derived.Test.YtllopocekegljaaNoL
import Derived.Test.YtllopocekegljaaNrB
namespace Go.Proofs.Ytllopocekegljaa.No
open Go.RowKit Go.Proofs.Ytllopocekegljaa.Oct Go.Proofs.Ytllopocekegljaa.Lf Go.Proofs.Ytllopocekegljaa.Mv
set_option linter.unusedVariables false
set_option linter.unusedSimpArgs false

theorem node_start_l (l : Bool) : Try.prog.built 24 [(0, .bool l)] = some #[.bool l, .slice none 0 0, .slice none 0 0] := by kernel_rfl
/-- The members from i on, ahead of j. -/
def mids (ns : List UInt64) (i j : Nat) : List UInt64 := (ns.take j).drop i
/-- A node of the call's own, its two lists apart. -/
def OwnT (w : World) (base : Nat) (v : Value) (l : Bool) (ks vs : List UInt64) : Prop := ∃ A c B d, v = .agg #[.bool l, .slice A ks.length c, .slice B vs.length d] ∧ OwnN w base (.slice A ks.length c) ks ∧ OwnN w base (.slice B vs.length d) vs ∧ ∀ k, (Value.slice A ks.length c).ownBlock = some k → (Value.slice B vs.length d).ownBlock ≠ some k
theorem OwnT.d {w : World} {base : Nat} {v : Value} {l : Bool} {ks vs : List UInt64} (h : OwnT w base v l ks vs) : OwnD w base v l ks vs := by
  obtain ⟨A, c, B, d, e, h1, h2, _⟩ := h
  exact ⟨_, _, e, h1, h2⟩
theorem own_apart {w : World} {base base' : Nat} {l : Bool} {vK vV : Value} {ks vs : List UInt64} (h : OwnD w base (.agg #[.bool l, vK, vV]) l ks vs) (hn : ∀ k, vK.ownBlock = some k → vV.ownBlock ≠ some k) (hb : base' ≤ base) : OwnT w base' (.agg #[.bool l, vK, vV]) l ks vs := by
  obtain ⟨vk, vv, e, h1, h2⟩ := h
  simp only [Value.agg.injEq, Array.mk.injEq, List.cons.injEq, and_true, true_and] at e
  obtain ⟨rfl, rfl⟩ := e
  obtain ⟨A, c, rfl, _⟩ := h1.slice
  obtain ⟨B, d, rfl, _⟩ := h2.slice
  exact ⟨A, c, B, d, rfl, own_mono h1 hb, own_mono h2 hb, hn⟩
theorem mids_none (ns : List UInt64) (i : Nat) : mids ns i i = [] := by
  unfold mids
  rw [List.drop_eq_nil_of_le]
  rw [List.length_take]
  omega
theorem mids_next {ns : List UInt64} {i j : Nat} (hij : i ≤ j) (hj : j < ns.length) : mids ns i (j + 1) = mids ns i j ++ [ns[j]] := by
  unfold mids
  rw [List.take_succ_eq_append_getElem hj, List.drop_append_of_le_length (by rw [List.length_take]; omega)]
theorem mids_len (ns : List UInt64) (i j : Nat) : (mids ns i j).length ≤ ns.length := by
  unfold mids
  rw [List.length_drop, List.length_take]
  omega
theorem mids_head (ns : List UInt64) (j : Nat) : mids ns 0 j = ns.take j := rfl
theorem mids_tail {ns : List UInt64} {n : Nat} (i : Nat) (h : ns.length = n) : mids ns i n = ns.drop i := by
  unfold mids
  rw [← h, List.take_length]

set_option maxRecDepth 100000 in
set_option maxHeartbeats 4000000 in
theorem part_any (l : Bool) {w : World} {A B : Option Addr} {n c d : Nat} {ks vs : List UInt64} (h : Nd w A n c B n d ks vs) (i j : Nat) (hij : i ≤ j) (hjn : j ≤ n) (hsz : n ≤ 400) :
    Calls Try.prog 36 #[.agg #[.bool l, .slice A n c, .slice B n d], .int .i64 (i : Int), .int .i64 (j : Int)] w fun e w' => ∃ v, e = .returned v ∧ OwnT w' w.heap.size v l (mids ks i j) (mids vs i j) ∧ Below w.heap.size w w' := by
  have b1 := (Below.refl w.heap.size w).alloc (Nat.le_refl _) (.cells #[.bool l, .slice A n c, .slice B n d] 24)
  have b2 := b1.alloc b1.size (.cells #[.bool false, .slice none 0 0, .slice none 0 0] 24)
  have BB := Lib.hid (b2.alloc b2.size (.cells #[.bool false, .slice none 0 0, .slice none 0 0] 24))
  have HBX := Lib.hid (((box_d w (.bool l) (.slice A n c) (.slice B n d)).new (.cells #[.bool false, .slice none 0 0, .slice none 0 0] 24)).new (.cells #[.bool false, .slice none 0 0, .slice none 0 0] 24))
  have HR := Lib.hid ((box_d (w.alloc (.cells #[.bool l, .slice A n c, .slice B n d] 24)) (.bool false) (.slice none 0 0) (.slice none 0 0)).new (.cells #[.bool false, .slice none 0 0, .slice none 0 0] 24))
  have HQ := Lib.hid (box_d ((w.alloc (.cells #[.bool l, .slice A n c, .slice B n d] 24)).alloc (.cells #[.bool false, .slice none 0 0, .slice none 0 0] 24)) (.bool false) (.slice none 0 0) (.slice none 0 0))
  rw [show (w.alloc (.cells #[.bool l, .slice A n c, .slice B n d] 24)).heap.size = w.heap.size + 1 by simp] at HR
  rw [show ((w.alloc (.cells #[.bool l, .slice A n c, .slice B n d] 24)).alloc (.cells #[.bool false, .slice none 0 0, .slice none 0 0] 24)).heap.size = w.heap.size + 2 by simp] at HQ
  have hz := node_zero
  have hs3 : (((w.alloc (.cells #[.bool l, .slice A n c, .slice B n d] 24)).alloc (.cells #[.bool false, .slice none 0 0, .slice none 0 0] 24)).alloc (.cells #[.bool false, .slice none 0 0, .slice none 0 0] 24)).heap.size = w.heap.size + 3 := by simp
  have hs2 : ((w.alloc (.cells #[.bool l, .slice A n c, .slice B n d] 24)).alloc (.cells #[.bool false, .slice none 0 0, .slice none 0 0] 24)).heap.size = w.heap.size + 2 := by simp
  have HN0 := Lib.hid h
  have HKL := Lib.hid h.kl
  have HVL := Lib.hid h.vl
  have hbl := (box_row w l A n c B n d).below (by simp) ((Below.refl _ _).alloc (Nat.le_refl _) (.cells #[.bool false, .slice none 0 0, .slice none 0 0] 24))
  have e0 := hbl.cellAt (i := 0) rfl
  clear h b1 b2 hbl
  go_enter Try.func36, Try.ntmps36
  go_wp2_with (first | (refine wpList_build_as rfl 24 #[(0, .tmp 10)] rfl #[.bool l, .slice none 0 0, .slice none 0 0] (by simp [Act.eval]; exact node_start_l l) ?_) | (refine wpList_store_d rfl (.tmp 7) (.tmp 11) rfl (w.heap.size + 2) 0 (.agg #[.bool l, .slice none 0 0, .slice none 0 0]) _ l [] [] rfl rfl HQ.out ⟨_, _, rfl, own_nil _ _, own_nil _ _⟩ ?_; intro cs HC))
  have HT := Lib.hid (show Twin ((((w.alloc (.cells #[.bool l, .slice A n c, .slice B n d] 24)).alloc (.cells #[.bool false, .slice none 0 0, .slice none 0 0] 24)).alloc (.cells #[.bool false, .slice none 0 0, .slice none 0 0] 24)).setRow (w.heap.size + 2) cs) (w.heap.size + 3) (w.heap.size + 2) l (.slice none 0 0) (.slice none 0 0) (.slice none 0 0) (.slice none 0 0) (mids ks i i) (mids vs i i) from ⟨HC.of, by rw [mids_none]; exact own_nil _ _, by rw [mids_none]; exact own_nil _ _, fun k e => (by cases e), by omega, by simp⟩)
  have HR2 := Lib.hid (HR.out.other cs (show w.heap.size + 1 ≠ w.heap.size + 2 by omega))
  have HX2 := Lib.hid (HBX.out.other cs (show w.heap.size ≠ w.heap.size + 2 by omega)).of
  have BB2 := Lib.hid (BB.out.trans (row_below cs (show w.heap.size ≤ w.heap.size + 2 by omega)))
  clear HC HQ HR BB HBX e0
  generalize (((w.alloc (.cells #[.bool l, .slice A n c, .slice B n d] 24)).alloc (.cells #[.bool false, .slice none 0 0, .slice none 0 0] 24)).alloc (.cells #[.bool false, .slice none 0 0, .slice none 0 0] 24)).setRow (w.heap.size + 2) cs = w2 at *
  clear hs3 hs2
  go_loopw [8] (fun s8 wr => ∃ t : Nat, i ≤ t ∧ t ≤ j ∧ s8 = .int .i64 (t : Int) ∧ Hid (∃ vK vV, Twin wr (w.heap.size + 3) (w.heap.size + 2) l vK vV vK vV (mids ks i t) (mids vs i t)) ∧ Hid (BoxD wr (w.heap.size + 1) zeroD) ∧ Hid (RowV wr w.heap.size 24 [.bool l, .slice A n c, .slice B n d]) ∧ Hid (Below w.heap.size w wr)) (fun s8 _ => j - (Go.RowKit.intOf s8).toNat)
  case atStart => exact ⟨i, Nat.le_refl _, hij, rfl, Lib.hid ⟨_, _, HT.out⟩, HR2, HX2, BB2⟩
  case round =>
    obtain ⟨t, hit, htj, rfl, HT, HR, HX, HB⟩ := hrel
    by_cases hlt : t < j
    · have htk : t < ks.length := by rw [HKL.out]; omega
      have htv : t < vs.length := by rw [HVL.out]; omega
      obtain ⟨bk, ok, rfl, hHk⟩ := HN0.out.ks.has (by omega)
      obtain ⟨bv, ov, rfl, hHv⟩ := HN0.out.vs.has (by omega)
      have HCK := Lib.hid (hHk t htk)
      have HCV := Lib.hid (hHv t htv)
      have hbk := World.block_lt_of_cell? w _ HCK.out
      have hbv := World.block_lt_of_cell? w _ HCV.out
      have ET := Lib.hid (mids_next hit htk)
      have EV := Lib.hid (mids_next hit htv)
      have hl1 : (mids ks i t).length ≤ 400 := Nat.le_trans (mids_len _ _ _) (by rw [HKL.out]; exact hsz)
      have hl2 : (mids vs i t).length ≤ 400 := Nat.le_trans (mids_len _ _ _) (by rw [HVL.out]; exact hsz)
      generalize ks[t] = x at *
      generalize vs[t] = y at *
      generalize mids ks i t = kn at *
      generalize mids vs i t = vn at *
      obtain ⟨vK, vV, HTW⟩ := HT.out
      replace HTW := Lib.hid HTW
      have hti : (t : Int) < (j : Int) := by omega
      have htn : (t : Int) < (n : Int) := by omega
      have htn2 : t < n := by omega
      clear hHk hHv HT
      go_upto_region 5 with (fail)
      obtain ⟨w5, hw5⟩ : ∃ x, x = wr := ⟨_, rfl⟩
      subst hw5
      refine Inv2.wp_region_inv (fun b a wy => ∃ (z : Nat → Value) (z25 : Value) (z26 : Value), a = ⟨(List.toArray (Value.agg #[Value.bool l, Value.slice (some ⟨bk, ok, none⟩) n c, Value.slice (some ⟨bv, ov, none⟩) n d] :: Value.int IntKind.i64 (i : Int) :: Value.int IntKind.i64 (j : Int) :: Value.pointer (some ⟨w.heap.size, 0, none⟩) :: undef :: undef :: Value.pointer (some ⟨w.heap.size + 1, 0, none⟩) :: Value.pointer (some ⟨w.heap.size + 2, 0, none⟩) :: Value.int IntKind.i64 (t : Int) :: Value.pointer (some ⟨w.heap.size, 0, none⟩) :: Value.bool l :: Value.agg #[Value.bool l, Value.slice none 0 0, Value.slice none 0 0] :: Value.int IntKind.i64 (i : Int) :: Value.int IntKind.i64 (t : Int) :: Value.int IntKind.i64 (j : Int) :: Value.bool true :: u16 :: u17 :: (z 18) :: (z 19) :: (z 20) :: (z 21) :: (z 22) :: (z 23) :: (z 24) :: z25 :: z26 :: (z 27) :: u28 :: u29 :: u30 :: u31 :: u32 :: u33 :: u34 :: u35 :: u36 :: u37 :: undef :: [])), []⟩ ∧ Hid ((b 0 = true → (z 18) = .pointer (some ⟨w.heap.size + 2, 1, none⟩)) ∧ (b 1 = true → (z 19) = vK) ∧ (b 2 = true → (z 20) = .pointer (some ⟨w.heap.size, 1, none⟩)) ∧ (b 3 = true → (z 21) = .slice (some ⟨bk, ok, none⟩) n c) ∧ (b 4 = true → (z 22) = Value.int IntKind.i64 (t : Int)) ∧ (b 5 = true → (z 23) = .pointer (some ⟨bk, ok + t, none⟩)) ∧ (b 6 = true → (z 24) = .int .u64 (x.toNat : Int)) ∧ (b 9 = true → (z 27) = .pointer (some ⟨w.heap.size + 2, 1, none⟩))) ∧ Hid (Below (w.heap.size + 2) w5 wy) ∧ Hid (∃ a1 cK kn', Twin wy (w.heap.size + 3) (w.heap.size + 2) l a1 vV cK vV kn' vn ∧ BoxD wy (w.heap.size + 1) zeroD ∧ RowV wy w.heap.size 24 [.bool l, .slice (some ⟨bk, ok, none⟩) n c, .slice (some ⟨bv, ov, none⟩) n d] ∧ (b 8 = false → cK = vK ∧ kn' = kn) ∧ (b 8 = true → b 1 = true ∧ b 7 = true ∧ cK = z26 ∧ kn' = kn ++ [x]) ∧ (b 10 = false → a1 = vK) ∧ (b 10 = true → b 8 = true ∧ a1 = z26) ∧ (b 7 = true → b 8 = false → Lone wy z25 x cK vV (w.heap.size + 3)))) (by kernel_rfl) (by kernel_rfl) ?startD ?stepsD ?doneD
      case startD =>
        intro b hb
        refine ⟨fun s => if s = 18 then u18 else if s = 19 then u19 else if s = 20 then u20 else if s = 21 then u21 else if s = 22 then u22 else if s = 23 then u23 else if s = 24 then u24 else if s = 27 then u27 else undef, u25, u26, rfl, Lib.hid ⟨?_, ?_, ?_, ?_, ?_, ?_, ?_, ?_⟩, Lib.hid ((show Still w5 w5.drew from ⟨rfl, rfl, rfl, rfl⟩).below _), Lib.hid (⟨vK, vK, kn, HTW.out.far ((show Still w5 w5.drew from ⟨rfl, rfl, rfl, rfl⟩).below _), HR.out.below HR.out.lt ((show Still w5 w5.drew from ⟨rfl, rfl, rfl, rfl⟩).below _), HX.out.below HX.out.lt ((show Still w5 w5.drew from ⟨rfl, rfl, rfl, rfl⟩).below _), fun _ => ⟨rfl, rfl⟩, (fun e => by rw [hb _ (by decide)] at e; cases e), fun _ => rfl, (fun e => by rw [hb _ (by decide)] at e; cases e), (fun e => by rw [hb _ (by decide)] at e; cases e)⟩)⟩
        all_goals (intro e; first | rfl | (rw [hb _ (by decide)] at e; cases e))
      case stepsD =>
        refine ⟨?_, ?_, ?_, ?_, ?_, ?_, ?_, ?_, ?_, ?_, ?_, trivial⟩
        · rintro b a wy hb hd ⟨z, z25, z26, rfl, HV, HW, HX⟩ K hK
          clear hd
          go_simp
          have V := HV.out
          exact hK _ _ ⟨fun s => if s = 18 then .pointer (some ⟨w.heap.size + 2, 1, none⟩) else z s, _, _, rfl, Lib.hid ⟨fun _ => rfl, V.2.1, V.2.2.1, V.2.2.2.1, V.2.2.2.2.1, V.2.2.2.2.2.1, V.2.2.2.2.2.2.1, V.2.2.2.2.2.2.2⟩, HW, HX⟩
        · rintro b a wy hb hd ⟨z, z25, z26, rfl, HV, HW, HX⟩ K hK
          simp [Region.binds] at hd
          have e0 : (z 18) = .pointer (some ⟨w.heap.size + 2, 1, none⟩) := (HV.out.1) (by simp [hd])
          clear hd
          obtain ⟨a1, cK, kn', xt, xb, xn, x8f, x8, x10f, x10, xl⟩ := HX.out
          have b8 : b 8 = false := by
              rcases Bool.eq_false_or_eq_true (b 8) with e | e
              · exact absurd (hb.symm.trans (x8 e).1) (by decide)
              · exact e
          have b10 : b 10 = false := by
              rcases Bool.eq_false_or_eq_true (b 10) with e | e
              · exact absurd (hb.symm.trans (x8 (x10 e).1).1) (by decide)
              · exact e
          have ea := x10f b10
          have c1 := xt.row.cellAt (i := 1) rfl
          replace c1 := c1.trans (congrArg some ea)
          clear ea
          go_simp
          have V := HV.out
          exact hK _ _ ⟨fun s => if s = 19 then vK else if s = 18 then .pointer (some ⟨w.heap.size + 2, 1, none⟩) else z s, _, _, rfl, Lib.hid ⟨fun _ => rfl, fun _ => rfl, V.2.2.1, V.2.2.2.1, V.2.2.2.2.1, V.2.2.2.2.2.1, V.2.2.2.2.2.2.1, V.2.2.2.2.2.2.2⟩, HW, Lib.hid ⟨a1, cK, kn', xt, xb, xn, x8f, fun e => absurd (b8.symm.trans e) (by decide), x10f, x10, xl⟩⟩
        · rintro b a wy hb hd ⟨z, z25, z26, rfl, HV, HW, HX⟩ K hK
          clear hd
          go_simp
          have V := HV.out
          exact hK _ _ ⟨fun s => if s = 20 then .pointer (some ⟨w.heap.size, 1, none⟩) else z s, _, _, rfl, Lib.hid ⟨V.1, V.2.1, fun _ => rfl, V.2.2.2.1, V.2.2.2.2.1, V.2.2.2.2.2.1, V.2.2.2.2.2.2.1, V.2.2.2.2.2.2.2⟩, HW, HX⟩
        · rintro b a wy hb hd ⟨z, z25, z26, rfl, HV, HW, HX⟩ K hK
          simp [Region.binds] at hd
          have e2 : (z 20) = .pointer (some ⟨w.heap.size, 1, none⟩) := (HV.out.2.2.1) (by simp [hd])
          clear hd
          obtain ⟨a1, cK, kn', xt, xb, xn, x8f, x8, x10f, x10, xl⟩ := HX.out
          have cn := xn.cellAt (i := 1) rfl
          go_simp
          have V := HV.out
          exact hK _ _ ⟨fun s => if s = 21 then .slice (some ⟨bk, ok, none⟩) n c else if s = 20 then .pointer (some ⟨w.heap.size, 1, none⟩) else z s, _, _, rfl, Lib.hid ⟨V.1, V.2.1, fun _ => rfl, fun _ => rfl, V.2.2.2.2.1, V.2.2.2.2.2.1, V.2.2.2.2.2.2.1, V.2.2.2.2.2.2.2⟩, HW, HX⟩
        · rintro b a wy hb hd ⟨z, z25, z26, rfl, HV, HW, HX⟩ K hK
          clear hd
          go_simp
          have V := HV.out
          exact hK _ _ ⟨fun s => if s = 22 then Value.int IntKind.i64 (t : Int) else z s, _, _, rfl, Lib.hid ⟨V.1, V.2.1, V.2.2.1, V.2.2.2.1, fun _ => rfl, V.2.2.2.2.2.1, V.2.2.2.2.2.2.1, V.2.2.2.2.2.2.2⟩, HW, HX⟩
        · rintro b a wy hb hd ⟨z, z25, z26, rfl, HV, HW, HX⟩ K hK
          simp [Region.binds] at hd
          have e3 : (z 21) = .slice (some ⟨bk, ok, none⟩) n c := (HV.out.2.2.2.1) (by simp [hd])
          have e4 : (z 22) = Value.int IntKind.i64 (t : Int) := (HV.out.2.2.2.2.1) (by simp [hd])
          clear hd
          have hwt : IntKind.i64.wrap (t : Int) = (t : Int) := IntWalk.i64_in _ (by omega)
          go_simp
          have V := HV.out
          exact hK _ _ ⟨fun s => if s = 23 then .pointer (some ⟨bk, ok + t, none⟩) else if s = 21 then .slice (some ⟨bk, ok, none⟩) n c else if s = 22 then Value.int IntKind.i64 (t : Int) else z s, _, _, rfl, Lib.hid ⟨V.1, V.2.1, V.2.2.1, fun _ => rfl, fun _ => rfl, fun _ => rfl, V.2.2.2.2.2.2.1, V.2.2.2.2.2.2.2⟩, HW, HX⟩
        · rintro b a wy hb hd ⟨z, z25, z26, rfl, HV, HW, HX⟩ K hK
          simp [Region.binds] at hd
          have e5 : (z 23) = .pointer (some ⟨bk, ok + t, none⟩) := (HV.out.2.2.2.2.2.1) (by simp [hd])
          clear hd
          have ce := ((HB.out.trans (HW.out.mono (by omega))).cell (p := ⟨bk, ok + t, none⟩) hbk).trans HCK.out
          go_simp
          have V := HV.out
          exact hK _ _ ⟨fun s => if s = 24 then .int .u64 (x.toNat : Int) else if s = 23 then .pointer (some ⟨bk, ok + t, none⟩) else z s, _, _, rfl, Lib.hid ⟨V.1, V.2.1, V.2.2.1, V.2.2.2.1, V.2.2.2.2.1, fun _ => rfl, fun _ => rfl, V.2.2.2.2.2.2.2⟩, HW, HX⟩
        · rintro b a wy hb hd ⟨z, z25, z26, rfl, HV, HW, HX⟩ K hK
          simp [Region.binds] at hd
          have e6 : (z 24) = .int .u64 (x.toNat : Int) := (HV.out.2.2.2.2.2.2.1) (by simp [hd])
          clear hd
          obtain ⟨a1, cK, kn', xt, xb, xn, x8f, x8, x10f, x10, xl⟩ := HX.out
          have b8 : b 8 = false := by
              rcases Bool.eq_false_or_eq_true (b 8) with e | e
              · exact absurd (hb.symm.trans (x8 e).2.1) (by decide)
              · exact e
          have qa := Lib.hid ((Below.refl wy.heap.size wy).alloc (Nat.le_refl _) (.cells #[.int .u64 (x.toNat : Int)] 25))
          have LN := Lib.hid (Lone.new xt x (lo := (w.heap.size + 3)) xt.bw)
          go_simp
          have V := HV.out
          exact hK _ _ ⟨fun s => if s = 24 then .int .u64 (x.toNat : Int) else z s, _, _, rfl, Lib.hid ⟨V.1, V.2.1, V.2.2.1, V.2.2.2.1, V.2.2.2.2.1, V.2.2.2.2.2.1, fun _ => rfl, V.2.2.2.2.2.2.2⟩, Lib.hid (HW.out.trans (qa.out.mono (by have := xt.bw; omega))), Lib.hid ⟨a1, cK, kn', xt.far qa.out, xb.new _, xn.below xn.lt qa.out, x8f, fun e => absurd (b8.symm.trans e) (by decide), x10f, x10, fun _ _ => LN.out⟩⟩
        · rintro b a wy hb hd ⟨z, z25, z26, rfl, HV, HW, HX⟩ K hK
          simp [Region.binds] at hd
          have e1 : (z 19) = vK := (HV.out.2.1) (by simp [hd])
          have dd7 : b 7 = true := by simp [hd]
          have dd1 : b 1 = true := by simp [hd]
          clear hd
          obtain ⟨a1, cK, kn', xt, xb, xn, x8f, x8, x10f, x10, xl⟩ := HX.out
          have b10 : b 10 = false := by
              rcases Bool.eq_false_or_eq_true (b 10) with e | e
              · exact absurd (hb.symm.trans (x10 e).1) (by decide)
              · exact e
          obtain ⟨ec, ek⟩ := x8f hb
          subst cK
          subst kn'
          obtain ⟨g, zz, g1, g2, g3, g4, g5⟩ := xl dd7 hb
          subst zz
          obtain ⟨v', wn, hrun, on, gn, ln⟩ := run_append_lone wy (w.heap.size + 3) 22 vK kn xt.ok g x g5 xt.bw (by omega)
          have kz := own_below xt.ok xt.bw gn
          rw [e1]
          refine if_wanted (by rfl) (Lib.wp_append_run _ (.tmp 19) (.tmp 25) 22 22 rfl _ _ rfl rfl _ _ hrun ?_)
          have V := HV.out
          exact hK _ _ ⟨fun s => if s = 19 then vK else z s, _, _, rfl, Lib.hid ⟨V.1, fun _ => rfl, V.2.2.1, V.2.2.2.1, V.2.2.2.2.1, V.2.2.2.2.2.1, V.2.2.2.2.2.2.1, V.2.2.2.2.2.2.2⟩, Lib.hid (HW.out.trans (kz.mono (by omega))), Lib.hid ⟨a1, _, _, xt.appK on gn ln, xb.below (by omega) kz, xn.below (by omega) kz, fun e => (by cases e), fun _ => ⟨dd1, dd7, rfl, rfl⟩, x10f, fun e => absurd (b10.symm.trans e) (by decide), fun _ e => (by cases e)⟩⟩
        · rintro b a wy hb hd ⟨z, z25, z26, rfl, HV, HW, HX⟩ K hK
          clear hd
          go_simp
          have V := HV.out
          exact hK _ _ ⟨fun s => if s = 27 then .pointer (some ⟨w.heap.size + 2, 1, none⟩) else z s, _, _, rfl, Lib.hid ⟨V.1, V.2.1, V.2.2.1, V.2.2.2.1, V.2.2.2.2.1, V.2.2.2.2.2.1, V.2.2.2.2.2.2.1, fun _ => rfl⟩, HW, HX⟩
        · rintro b a wy hb hd ⟨z, z25, z26, rfl, HV, HW, HX⟩ K hK
          simp [Region.binds] at hd
          have e9 : (z 27) = .pointer (some ⟨w.heap.size + 2, 1, none⟩) := (HV.out.2.2.2.2.2.2.2) (by simp [hd])
          have dd8 : b 8 = true := by simp [hd]
          clear hd
          obtain ⟨a1, cK, kn', xt, xb, xn, x8f, x8, x10f, x10, xl⟩ := HX.out
          obtain ⟨_, _, ec, _⟩ := x8 dd8
          obtain ⟨A9, k9, es, _⟩ := xt.ok.slice
          rw [ec] at es
          clear ec
          generalize kn'.length = m9 at es
          subst es
          have hcell := xt.row.cellAt (i := 1) rfl
          have hfree := xt.row.free 1
          go_simp
          have V := HV.out
          exact hK _ _ ⟨fun s => if s = 27 then .pointer (some ⟨w.heap.size + 2, 1, none⟩) else z s, _, _, rfl, Lib.hid ⟨V.1, V.2.1, V.2.2.1, V.2.2.2.1, V.2.2.2.2.1, V.2.2.2.2.2.1, V.2.2.2.2.2.2.1, fun _ => rfl⟩, Lib.hid (HW.out.setCell (p := ⟨w.heap.size + 2, 1, none⟩) (by show w.heap.size + 2 ≤ w.heap.size + 2; omega) _), Lib.hid ⟨_, cK, kn', xt.set1 _, xb.below (show w.heap.size + 1 < w.heap.size + 2 by omega) ((Below.refl (w.heap.size + 2) wy).setCell (p := ⟨w.heap.size + 2, 1, none⟩) (Nat.le_refl _) _), xn.below (show w.heap.size < w.heap.size + 2 by omega) ((Below.refl (w.heap.size + 2) wy).setCell (p := ⟨w.heap.size + 2, 1, none⟩) (Nat.le_refl _) _), x8f, x8, fun e => (by cases e), fun _ => ⟨dd8, rfl⟩, fun e e' => (xl e e').set (by omega) _⟩⟩
      case doneD =>
        rintro b a w6 hb ⟨z, z25, z26, rfl, HV, HW, HX⟩
        have e0 := (HV.out.1) (hb 0)
        have e1 := (HV.out.2.1) (hb 1)
        have e2 := (HV.out.2.2.1) (hb 2)
        have e3 := (HV.out.2.2.2.1) (hb 3)
        have e4 := (HV.out.2.2.2.2.1) (hb 4)
        have e5 := (HV.out.2.2.2.2.2.1) (hb 5)
        have e6 := (HV.out.2.2.2.2.2.2.1) (hb 6)
        have e9 := (HV.out.2.2.2.2.2.2.2) (hb 9)
        simp only [e0, e1, e2, e3, e4, e5, e6, e9]
        clear HV e0 e1 e2 e3 e4 e5 e6 e9
        obtain ⟨a1, cK, kn', xt, xb, xn, _, x8, _, x10, _⟩ := HX.out
        obtain ⟨_, _, e1, e2⟩ := x8 (hb 8)
        obtain ⟨_, e3⟩ := x10 (hb 10)
        replace e1 := e1.symm
        replace e3 := e3.symm
        subst e1
        subst e3
        subst e2
        obtain ⟨vK2, hvK⟩ : ∃ q, z26 = q := ⟨_, rfl⟩
        obtain ⟨kn2, hkn⟩ : ∃ q, kn ++ [x] = q := ⟨_, rfl⟩
        rw [hvK, hkn] at xt
        rw [hkn] at ET
        replace HTW := Lib.hid xt
        replace HR := Lib.hid xb
        replace HX := Lib.hid xn
        replace HB := Lib.hid (HB.out.trans (HW.out.mono (by omega)))
        clear x8 x10 xt xb xn HW hb hvK hkn
      
        go_upto_region 6 with (fail)
        refine Inv2.wp_region_inv (fun b a wy => ∃ (z : Nat → Value) (z35 : Value) (z36 : Value), a = ⟨(List.toArray (Value.agg #[Value.bool l, Value.slice (some ⟨bk, ok, none⟩) n c, Value.slice (some ⟨bv, ov, none⟩) n d] :: Value.int IntKind.i64 (i : Int) :: Value.int IntKind.i64 (j : Int) :: Value.pointer (some ⟨w.heap.size, 0, none⟩) :: undef :: undef :: Value.pointer (some ⟨w.heap.size + 1, 0, none⟩) :: Value.pointer (some ⟨w.heap.size + 2, 0, none⟩) :: Value.int IntKind.i64 (t : Int) :: Value.pointer (some ⟨w.heap.size, 0, none⟩) :: Value.bool l :: Value.agg #[Value.bool l, Value.slice none 0 0, Value.slice none 0 0] :: Value.int IntKind.i64 (i : Int) :: Value.int IntKind.i64 (t : Int) :: Value.int IntKind.i64 (j : Int) :: Value.bool true :: u16 :: u17 :: Value.pointer (some ⟨w.heap.size + 2, 1, none⟩) :: vK :: Value.pointer (some ⟨w.heap.size, 1, none⟩) :: Value.slice (some ⟨bk, ok, none⟩) n c :: Value.int IntKind.i64 (t : Int) :: Value.pointer (some ⟨bk, ok + t, none⟩) :: Value.int IntKind.u64 ↑x.toNat :: z25 :: z26 :: Value.pointer (some ⟨w.heap.size + 2, 1, none⟩) :: (z 28) :: (z 29) :: (z 30) :: (z 31) :: (z 32) :: (z 33) :: (z 34) :: z35 :: z36 :: (z 37) :: undef :: [])), []⟩ ∧ Hid ((b 0 = true → (z 28) = .pointer (some ⟨w.heap.size + 2, 2, none⟩)) ∧ (b 1 = true → (z 29) = vV) ∧ (b 2 = true → (z 30) = .pointer (some ⟨w.heap.size, 2, none⟩)) ∧ (b 3 = true → (z 31) = .slice (some ⟨bv, ov, none⟩) n d) ∧ (b 4 = true → (z 32) = Value.int IntKind.i64 (t : Int)) ∧ (b 5 = true → (z 33) = .pointer (some ⟨bv, ov + t, none⟩)) ∧ (b 6 = true → (z 34) = .int .u64 (y.toNat : Int)) ∧ (b 9 = true → (z 37) = .pointer (some ⟨w.heap.size + 2, 2, none⟩))) ∧ Hid (Below (w.heap.size + 2) w6 wy) ∧ Hid (∃ a1 cK kn', Twin wy (w.heap.size + 3) (w.heap.size + 2) l vK2 a1 vK2 cK kn2 kn' ∧ BoxD wy (w.heap.size + 1) zeroD ∧ RowV wy w.heap.size 24 [.bool l, .slice (some ⟨bk, ok, none⟩) n c, .slice (some ⟨bv, ov, none⟩) n d] ∧ (b 8 = false → cK = vV ∧ kn' = vn) ∧ (b 8 = true → b 1 = true ∧ b 7 = true ∧ cK = z36 ∧ kn' = vn ++ [y]) ∧ (b 10 = false → a1 = vV) ∧ (b 10 = true → b 8 = true ∧ a1 = z36) ∧ (b 7 = true → b 8 = false → Lone wy z35 y vK2 cK (w.heap.size + 3)))) (by kernel_rfl) (by kernel_rfl) ?startE ?stepsE ?doneE
        case startE =>
          intro b hb
          refine ⟨fun s => if s = 28 then u28 else if s = 29 then u29 else if s = 30 then u30 else if s = 31 then u31 else if s = 32 then u32 else if s = 33 then u33 else if s = 34 then u34 else if s = 37 then u37 else undef, u35, u36, rfl, Lib.hid ⟨?_, ?_, ?_, ?_, ?_, ?_, ?_, ?_⟩, Lib.hid ((show Still w6 w6.drew from ⟨rfl, rfl, rfl, rfl⟩).below _), Lib.hid (⟨vV, vV, vn, HTW.out.far ((show Still w6 w6.drew from ⟨rfl, rfl, rfl, rfl⟩).below _), HR.out.below HR.out.lt ((show Still w6 w6.drew from ⟨rfl, rfl, rfl, rfl⟩).below _), HX.out.below HX.out.lt ((show Still w6 w6.drew from ⟨rfl, rfl, rfl, rfl⟩).below _), fun _ => ⟨rfl, rfl⟩, (fun e => by rw [hb _ (by decide)] at e; cases e), fun _ => rfl, (fun e => by rw [hb _ (by decide)] at e; cases e), (fun e => by rw [hb _ (by decide)] at e; cases e)⟩)⟩
          all_goals (intro e; first | rfl | (rw [hb _ (by decide)] at e; cases e))
        case stepsE =>
          refine ⟨?_, ?_, ?_, ?_, ?_, ?_, ?_, ?_, ?_, ?_, ?_, trivial⟩
          · rintro b a wy hb hd ⟨z, z35, z36, rfl, HV, HW, HX⟩ K hK
            clear hd
            go_simp
            have V := HV.out
            exact hK _ _ ⟨fun s => if s = 28 then .pointer (some ⟨w.heap.size + 2, 2, none⟩) else z s, _, _, rfl, Lib.hid ⟨fun _ => rfl, V.2.1, V.2.2.1, V.2.2.2.1, V.2.2.2.2.1, V.2.2.2.2.2.1, V.2.2.2.2.2.2.1, V.2.2.2.2.2.2.2⟩, HW, HX⟩
          · rintro b a wy hb hd ⟨z, z35, z36, rfl, HV, HW, HX⟩ K hK
            simp [Region.binds] at hd
            have e0 : (z 28) = .pointer (some ⟨w.heap.size + 2, 2, none⟩) := (HV.out.1) (by simp [hd])
            clear hd
            obtain ⟨a1, cK, kn', xt, xb, xn, x8f, x8, x10f, x10, xl⟩ := HX.out
            have b8 : b 8 = false := by
                rcases Bool.eq_false_or_eq_true (b 8) with e | e
                · exact absurd (hb.symm.trans (x8 e).1) (by decide)
                · exact e
            have b10 : b 10 = false := by
                rcases Bool.eq_false_or_eq_true (b 10) with e | e
                · exact absurd (hb.symm.trans (x8 (x10 e).1).1) (by decide)
                · exact e
            have ea := x10f b10
            have c1 := xt.row.cellAt (i := 2) rfl
            replace c1 := c1.trans (congrArg some ea)
            clear ea
            go_simp
            have V := HV.out
            exact hK _ _ ⟨fun s => if s = 29 then vV else if s = 28 then .pointer (some ⟨w.heap.size + 2, 2, none⟩) else z s, _, _, rfl, Lib.hid ⟨fun _ => rfl, fun _ => rfl, V.2.2.1, V.2.2.2.1, V.2.2.2.2.1, V.2.2.2.2.2.1, V.2.2.2.2.2.2.1, V.2.2.2.2.2.2.2⟩, HW, Lib.hid ⟨a1, cK, kn', xt, xb, xn, x8f, fun e => absurd (b8.symm.trans e) (by decide), x10f, x10, xl⟩⟩
          · rintro b a wy hb hd ⟨z, z35, z36, rfl, HV, HW, HX⟩ K hK
            clear hd
            go_simp
            have V := HV.out
            exact hK _ _ ⟨fun s => if s = 30 then .pointer (some ⟨w.heap.size, 2, none⟩) else z s, _, _, rfl, Lib.hid ⟨V.1, V.2.1, fun _ => rfl, V.2.2.2.1, V.2.2.2.2.1, V.2.2.2.2.2.1, V.2.2.2.2.2.2.1, V.2.2.2.2.2.2.2⟩, HW, HX⟩
          · rintro b a wy hb hd ⟨z, z35, z36, rfl, HV, HW, HX⟩ K hK
            simp [Region.binds] at hd
            have e2 : (z 30) = .pointer (some ⟨w.heap.size, 2, none⟩) := (HV.out.2.2.1) (by simp [hd])
            clear hd
            obtain ⟨a1, cK, kn', xt, xb, xn, x8f, x8, x10f, x10, xl⟩ := HX.out
            have cn := xn.cellAt (i := 2) rfl
            go_simp
            have V := HV.out
            exact hK _ _ ⟨fun s => if s = 31 then .slice (some ⟨bv, ov, none⟩) n d else if s = 30 then .pointer (some ⟨w.heap.size, 2, none⟩) else z s, _, _, rfl, Lib.hid ⟨V.1, V.2.1, fun _ => rfl, fun _ => rfl, V.2.2.2.2.1, V.2.2.2.2.2.1, V.2.2.2.2.2.2.1, V.2.2.2.2.2.2.2⟩, HW, HX⟩
          · rintro b a wy hb hd ⟨z, z35, z36, rfl, HV, HW, HX⟩ K hK
            clear hd
            go_simp
            have V := HV.out
            exact hK _ _ ⟨fun s => if s = 32 then Value.int IntKind.i64 (t : Int) else z s, _, _, rfl, Lib.hid ⟨V.1, V.2.1, V.2.2.1, V.2.2.2.1, fun _ => rfl, V.2.2.2.2.2.1, V.2.2.2.2.2.2.1, V.2.2.2.2.2.2.2⟩, HW, HX⟩
          · rintro b a wy hb hd ⟨z, z35, z36, rfl, HV, HW, HX⟩ K hK
            simp [Region.binds] at hd
            have e3 : (z 31) = .slice (some ⟨bv, ov, none⟩) n d := (HV.out.2.2.2.1) (by simp [hd])
            have e4 : (z 32) = Value.int IntKind.i64 (t : Int) := (HV.out.2.2.2.2.1) (by simp [hd])
            clear hd
            have hwt : IntKind.i64.wrap (t : Int) = (t : Int) := IntWalk.i64_in _ (by omega)
            go_simp
            have V := HV.out
            exact hK _ _ ⟨fun s => if s = 33 then .pointer (some ⟨bv, ov + t, none⟩) else if s = 31 then .slice (some ⟨bv, ov, none⟩) n d else if s = 32 then Value.int IntKind.i64 (t : Int) else z s, _, _, rfl, Lib.hid ⟨V.1, V.2.1, V.2.2.1, fun _ => rfl, fun _ => rfl, fun _ => rfl, V.2.2.2.2.2.2.1, V.2.2.2.2.2.2.2⟩, HW, HX⟩
          · rintro b a wy hb hd ⟨z, z35, z36, rfl, HV, HW, HX⟩ K hK
            simp [Region.binds] at hd
            have e5 : (z 33) = .pointer (some ⟨bv, ov + t, none⟩) := (HV.out.2.2.2.2.2.1) (by simp [hd])
            clear hd
            have ce := ((HB.out.trans (HW.out.mono (by omega))).cell (p := ⟨bv, ov + t, none⟩) hbv).trans HCV.out
            go_simp
            have V := HV.out
            exact hK _ _ ⟨fun s => if s = 34 then .int .u64 (y.toNat : Int) else if s = 33 then .pointer (some ⟨bv, ov + t, none⟩) else z s, _, _, rfl, Lib.hid ⟨V.1, V.2.1, V.2.2.1, V.2.2.2.1, V.2.2.2.2.1, fun _ => rfl, fun _ => rfl, V.2.2.2.2.2.2.2⟩, HW, HX⟩
          · rintro b a wy hb hd ⟨z, z35, z36, rfl, HV, HW, HX⟩ K hK
            simp [Region.binds] at hd
            have e6 : (z 34) = .int .u64 (y.toNat : Int) := (HV.out.2.2.2.2.2.2.1) (by simp [hd])
            clear hd
            obtain ⟨a1, cK, kn', xt, xb, xn, x8f, x8, x10f, x10, xl⟩ := HX.out
            have b8 : b 8 = false := by
                rcases Bool.eq_false_or_eq_true (b 8) with e | e
                · exact absurd (hb.symm.trans (x8 e).2.1) (by decide)
                · exact e
            have qa := Lib.hid ((Below.refl wy.heap.size wy).alloc (Nat.le_refl _) (.cells #[.int .u64 (y.toNat : Int)] 25))
            have LN := Lib.hid (Lone.new xt y (lo := (w.heap.size + 3)) xt.bw)
            go_simp
            have V := HV.out
            exact hK _ _ ⟨fun s => if s = 34 then .int .u64 (y.toNat : Int) else z s, _, _, rfl, Lib.hid ⟨V.1, V.2.1, V.2.2.1, V.2.2.2.1, V.2.2.2.2.1, V.2.2.2.2.2.1, fun _ => rfl, V.2.2.2.2.2.2.2⟩, Lib.hid (HW.out.trans (qa.out.mono (by have := xt.bw; omega))), Lib.hid ⟨a1, cK, kn', xt.far qa.out, xb.new _, xn.below xn.lt qa.out, x8f, fun e => absurd (b8.symm.trans e) (by decide), x10f, x10, fun _ _ => LN.out⟩⟩
          · rintro b a wy hb hd ⟨z, z35, z36, rfl, HV, HW, HX⟩ K hK
            simp [Region.binds] at hd
            have e1 : (z 29) = vV := (HV.out.2.1) (by simp [hd])
            have dd7 : b 7 = true := by simp [hd]
            have dd1 : b 1 = true := by simp [hd]
            clear hd
            obtain ⟨a1, cK, kn', xt, xb, xn, x8f, x8, x10f, x10, xl⟩ := HX.out
            have b10 : b 10 = false := by
                rcases Bool.eq_false_or_eq_true (b 10) with e | e
                · exact absurd (hb.symm.trans (x10 e).1) (by decide)
                · exact e
            obtain ⟨ec, ek⟩ := x8f hb
            subst cK
            subst kn'
            obtain ⟨g, zz, g1, g2, g3, g4, g5⟩ := xl dd7 hb
            subst zz
            obtain ⟨v', wn, hrun, on, gn, ln⟩ := run_append_lone wy (w.heap.size + 3) 22 vV vn xt.ov g y g5 xt.bw (by omega)
            have kz := own_below xt.ov xt.bw gn
            rw [e1]
            refine if_wanted (by rfl) (Lib.wp_append_run _ (.tmp 29) (.tmp 35) 22 22 rfl _ _ rfl rfl _ _ hrun ?_)
            have V := HV.out
            exact hK _ _ ⟨fun s => if s = 29 then vV else z s, _, _, rfl, Lib.hid ⟨V.1, fun _ => rfl, V.2.2.1, V.2.2.2.1, V.2.2.2.2.1, V.2.2.2.2.2.1, V.2.2.2.2.2.2.1, V.2.2.2.2.2.2.2⟩, Lib.hid (HW.out.trans (kz.mono (by omega))), Lib.hid ⟨a1, _, _, xt.appV on gn ln, xb.below (by omega) kz, xn.below (by omega) kz, fun e => (by cases e), fun _ => ⟨dd1, dd7, rfl, rfl⟩, x10f, fun e => absurd (b10.symm.trans e) (by decide), fun _ e => (by cases e)⟩⟩
          · rintro b a wy hb hd ⟨z, z35, z36, rfl, HV, HW, HX⟩ K hK
            clear hd
            go_simp
            have V := HV.out
            exact hK _ _ ⟨fun s => if s = 37 then .pointer (some ⟨w.heap.size + 2, 2, none⟩) else z s, _, _, rfl, Lib.hid ⟨V.1, V.2.1, V.2.2.1, V.2.2.2.1, V.2.2.2.2.1, V.2.2.2.2.2.1, V.2.2.2.2.2.2.1, fun _ => rfl⟩, HW, HX⟩
          · rintro b a wy hb hd ⟨z, z35, z36, rfl, HV, HW, HX⟩ K hK
            simp [Region.binds] at hd
            have e9 : (z 37) = .pointer (some ⟨w.heap.size + 2, 2, none⟩) := (HV.out.2.2.2.2.2.2.2) (by simp [hd])
            have dd8 : b 8 = true := by simp [hd]
            clear hd
            obtain ⟨a1, cK, kn', xt, xb, xn, x8f, x8, x10f, x10, xl⟩ := HX.out
            obtain ⟨_, _, ec, _⟩ := x8 dd8
            obtain ⟨A9, k9, es, _⟩ := xt.ov.slice
            rw [ec] at es
            clear ec
            generalize kn'.length = m9 at es
            subst es
            have hcell := xt.row.cellAt (i := 2) rfl
            have hfree := xt.row.free 2
            go_simp
            have V := HV.out
            exact hK _ _ ⟨fun s => if s = 37 then .pointer (some ⟨w.heap.size + 2, 2, none⟩) else z s, _, _, rfl, Lib.hid ⟨V.1, V.2.1, V.2.2.1, V.2.2.2.1, V.2.2.2.2.1, V.2.2.2.2.2.1, V.2.2.2.2.2.2.1, fun _ => rfl⟩, Lib.hid (HW.out.setCell (p := ⟨w.heap.size + 2, 2, none⟩) (by show w.heap.size + 2 ≤ w.heap.size + 2; omega) _), Lib.hid ⟨_, cK, kn', xt.set2 _, xb.below (show w.heap.size + 1 < w.heap.size + 2 by omega) ((Below.refl (w.heap.size + 2) wy).setCell (p := ⟨w.heap.size + 2, 2, none⟩) (Nat.le_refl _) _), xn.below (show w.heap.size < w.heap.size + 2 by omega) ((Below.refl (w.heap.size + 2) wy).setCell (p := ⟨w.heap.size + 2, 2, none⟩) (Nat.le_refl _) _), x8f, x8, fun e => (by cases e), fun _ => ⟨dd8, rfl⟩, fun e e' => (xl e e').set (by omega) _⟩⟩
        case doneE =>
          rintro b a w9 hb ⟨z, z35, z36, rfl, HV, HW, HX⟩
          have e0 := (HV.out.1) (hb 0)
          have e1 := (HV.out.2.1) (hb 1)
          have e2 := (HV.out.2.2.1) (hb 2)
          have e3 := (HV.out.2.2.2.1) (hb 3)
          have e4 := (HV.out.2.2.2.2.1) (hb 4)
          have e5 := (HV.out.2.2.2.2.2.1) (hb 5)
          have e6 := (HV.out.2.2.2.2.2.2.1) (hb 6)
          have e9 := (HV.out.2.2.2.2.2.2.2) (hb 9)
          simp only [e0, e1, e2, e3, e4, e5, e6, e9]
          clear HV e0 e1 e2 e3 e4 e5 e6 e9
          obtain ⟨a1, cK, kn', xt, xb, xn, _, x8, _, x10, _⟩ := HX.out
          obtain ⟨_, _, e1, e2⟩ := x8 (hb 8)
          obtain ⟨_, e3⟩ := x10 (hb 10)
          replace e1 := e1.symm
          replace e3 := e3.symm
          subst e1
          subst e3
          subst e2
          rw [← ET.out, ← EV.out] at xt
          have HT9 := Lib.hid xt
          have HR9 := Lib.hid xb
          have HX9 := Lib.hid xn
          have HB9 := Lib.hid (HB.out.trans (HW.out.mono (by omega)))
          clear x8 x10 xt xb xn HX HW hb
          go_wp2_with fail
          go_roundw
          case rel => exact ⟨t + 1, by omega, by omega, by go_num, Lib.hid ⟨_, _, HT9.out⟩, HR9, HX9, HB9⟩
          case measure => simp [Go.RowKit.intOf]; omega
    · obtain rfl : t = j := by omega
      obtain ⟨vK, vV, HT⟩ := HT.out
      have HO := Lib.hid (show OwnD wr (w.heap.size + 3) (.agg #[.bool l, vK, vV]) l _ _ from ⟨_, _, rfl, HT.ok, HT.ov⟩)
      have HNE := Lib.hid HT.ne
      have HY := Lib.hid (row_d HT.row)
      clear HT
      go_wp2_with (first | (refine wpList_load_d rfl (.tmp 7) rfl (w.heap.size + 2) _ rfl HY.out ?_) | (refine wpList_store_d rfl (.tmp 6) (.tmp 38) rfl (w.heap.size + 1) (w.heap.size + 3) _ _ _ _ _ rfl rfl HR.out HO.out ?_; intro cs HC))
      exact bodyPost_ret (v := _) (res_one rfl _ rfl HC) rfl ⟨_, rfl, own_apart (HO.out.row cs (by omega)) HNE.out (by omega), HB.out.trans (row_below cs (by omega))⟩

end Go.Proofs.Ytllopocekegljaa.No
