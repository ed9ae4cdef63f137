/- Several texts in one: BsK BsL BsM BsN. (Written by bin/prune.py.) -/
import Derived.Laws.ResultCell
import Derived.Test.YtogchamogbendaaGreatQbq
import Derived.Test.YtogchamogbendaaGreatQbi
/- Pages that were placed, as steps of a plan. (Written by bin/gen_bsk.py.) -/
namespace Go.Proofs.YtogchamogbendaaGreat.Bs
set_option maxRecDepth 100000
open Go.RowKit Go.Proofs.YtogchamogbendaaGreat.Oct Go.Proofs.YtogchamogbendaaGreat.Mv Go.Proofs.YtogchamogbendaaGreat.Tl Go.Proofs.YtogchamogbendaaGreat.Pk Go.Proofs.YtogchamogbendaaGreat.Pl Go.Maps Go.ChangeMaps
open Go.Proofs.YtogchamogbendaaGreat.Dsk (dT)
open Go.Proofs.YtogchamogbendaaGreat.Su (Sup nth scells)
open Go.Proofs.YtogchamogbendaaGreat.Ix (idxPage idxBody wvals Wd)
set_option linter.unusedVariables false
set_option linter.unusedSimpArgs false

/-- What a directory page has. -/
def dirW (m1 : List Nat) (i : Nat) : List UInt16 := ((m1.drop (i * 61)).take 61).map UInt16.ofNat
def cntSteps (s : Tl.St) (m1 k1 : List Nat) : List Stp := k1.map fun i => .w (m1.getD i 0) (idxPage 5 (Pl.part s i))
def dirSteps (m1 m2 k2 : List Nat) : List Stp := k2.map fun i => .w (m2.getD i 0) (idxPage 4 (dirW m1 i))
theorem part_le (s : Tl.St) (p : Nat) : (Pl.part s p).length ≤ 61 := by rw [Pl.length_part]; unfold Pl.many; omega
theorem wd_row {w : World} {g : Nat} {l : List UInt16} (h : RowV w g 34 (nums l)) (n : Nat) (hn : l.length = n) (h61 : n ≤ 4096) : Wd w (some ⟨g, 0, none⟩) n n l :=
  ⟨hn, Nat.le_refl _, by unfold maxLen; omega, h.has.told⟩
/-- A layout: where pages stand, and which were placed. -/
structure Lay (w : World) (g1 g3 : Nat) (m1 m2 k1 k2 : List Nat) (A1 A2 : Option Addr) : Prop where
  r1 : ∃ sp, RowV w g1 3 (ints m1 ++ sp)
  r3 : ∃ sp, RowV w g3 3 (ints m2 ++ sp)
  t1 : ToldV w A1 (ints k1)
  t2 : ToldV w A2 (ints k2)
def lval (g1 n1 d1 g3 n3 d3 : Nat) (A1 : Option Addr) (c1 n : Nat) (A2 : Option Addr) (c2 m : Nat) : List Value := [.slice (some ⟨g1, 0, none⟩) n1 d1, .slice (some ⟨g3, 0, none⟩) n3 d3, .slice A1 n c1, .slice A2 m c2]

theorem prow5 {w : World} {B P d : Nat} {l : List Stp} (h : Pln w B P d l) (hBB : B ≤ w.heap.size) (hfew : l.length < 100000) (p : Nat) {Ad : Option Addr} {n c : Nat} {ns : List UInt16} (hw : Wd w Ad n c ns) (hn : n ≤ 61) :
    Calls Tryz.prog 163 #[.pointer (some ⟨P, 0, none⟩), .int .u8 5, .int .i64 (p : Int), .slice Ad n c] w (More w B P d l [.w p (idxPage 5 ns)]) := prow h hBB hfew 5 (.inr rfl) p hw hn
theorem prow4 {w : World} {B P d : Nat} {l : List Stp} (h : Pln w B P d l) (hBB : B ≤ w.heap.size) (hfew : l.length < 100000) (p : Nat) {Ad : Option Addr} {n c : Nat} {ns : List UInt16} (hw : Wd w Ad n c ns) (hn : n ≤ 61) :
    Calls Tryz.prog 163 #[.pointer (some ⟨P, 0, none⟩), .int .u8 4, .int .i64 (p : Int), .slice Ad n c] w (More w B P d l [.w p (idxPage 4 ns)]) := prow h hBB hfew 4 (.inl rfl) p hw hn
theorem length_cntSteps (s : Tl.St) (m1 k1 : List Nat) : (cntSteps s m1 k1).length = k1.length := by simp [cntSteps]
theorem length_dirSteps (m1 m2 k2 : List Nat) : (dirSteps m1 m2 k2).length = k2.length := by simp [dirSteps]

/-- What a plan is made of, at the world that it begins with. -/
structure Src (v : World) (ta cb mb c : Nat) (s : Tl.St) (g1 d1 g3 d3 c1 c2 : Nat) (A1 A2 : Option Addr) (m1 m2 k1 k2 : List Nat) : Prop where
  ht : Tl.At v ta cb mb c s
  r1 : ∃ sp, RowV v g1 3 (ints m1 ++ sp)
  r3 : ∃ sp, RowV v g3 3 (ints m2 ++ sp)
  t1 : ToldV v A1 (ints k1)
  t2 : ToldV v A2 (ints k2)
  hm : m1.length ≤ 4096
  hd1 : k2 ≠ [] → m1.length ≤ d1
  hd1m : k2 ≠ [] → d1 ≤ maxLen
  hm64 : ∀ x ∈ m1, x < 65536
  hk1 : ∀ i ∈ k1, i < pg s.n ∧ i < m1.length
  hk2 : ∀ i ∈ k2, i < m2.length ∧ i * 61 < m1.length
  hl1 : k1.length ≤ 4096
  hl2 : k2.length ≤ 4096
  hm2 : m2.length ≤ 4096
theorem Src.kept {v v' : World} {ta cb mb c : Nat} {s : Tl.St} {g1 d1 g3 d3 c1 c2 : Nat} {A1 A2 : Option Addr} {m1 m2 k1 k2 : List Nat} (h : Src v ta cb mb c s g1 d1 g3 d3 c1 c2 A1 A2 m1 m2 k1 k2) (k : Below v.heap.size v v') : Src v' ta cb mb c s g1 d1 g3 d3 c1 c2 A1 A2 m1 m2 k1 k2 :=
  ⟨h.ht.kept k, h.r1.imp fun _ r => r.below r.lt k, h.r3.imp fun _ r => r.below r.lt k, h.t1.below k, h.t2.below k, h.hm, h.hd1, h.hd1m, h.hm64, h.hk1, h.hk2, h.hl1, h.hl2, h.hm2⟩
theorem off_below {B : Nat} {w w' : World} (h : Off plT (fun k => k < B) [] w w') (hB : B ≤ w.heap.size) : Below B w w' := h.below (fun _ k => k) (by simp) hB
theorem length_dirW (m1 : List Nat) (i : Nat) : (dirW m1 i).length = min 61 (m1.length - i * 61) := by
  unfold dirW
  rw [List.length_map, List.length_take, List.length_drop]
theorem as_part {v : World} {ta cb mb c : Nat} {s : Tl.St} {g1 d1 g3 d3 c1 c2 : Nat} {A1 A2 : Option Addr} {m1 m2 k1 k2 : List Nat} (h : Src v ta cb mb c s g1 d1 g3 d3 c1 c2 A1 A2 m1 m2 k1 k2) {j : Nat} (hj : j * 61 < m1.length) :
    Calls Tryz.prog 165 #[.slice (some ⟨g1, j * 61, none⟩) (min 61 (m1.length - j * 61)) (d1 - j * 61)] v fun e w' => ∃ g, e = .returned (.slice (some ⟨g, 0, none⟩) (min 61 (m1.length - j * 61)) (min 61 (m1.length - j * 61))) ∧ RowV w' g 34 (nums (dirW m1 j)) ∧ v.heap.size ≤ g ∧ Below v.heap.size v w' := by
  obtain ⟨sp, hr⟩ := h.r1
  have hl : ((m1.drop (j * 61)).take 61).length = min 61 (m1.length - j * 61) := by rw [List.length_take, List.length_drop]
  have ht : ToldV v (some ⟨g1, j * 61, none⟩) (kv .i64 ((m1.drop (j * 61)).take 61)) := by
    refine .inr ⟨g1, _, rfl, fun i hi => ?_⟩
    rw [length_kv, hl] at hi
    have := row_int hr (i := j * 61 + i) (by omega)
    rw [this, ← Option.some_inj, ← List.getElem?_eq_getElem, kv_at _ _ (by rw [hl]; exact hi)]
    congr 3
    rw [List.getD_eq_getElem?_getD, List.getD_eq_getElem?_getD, List.getElem?_take, if_pos (by omega), List.getElem?_drop]
  have := as_uint16_int (c := d1 - j * 61) ht (by rw [hl]; omega) (fun x hx => h.hm64 x (List.mem_of_mem_drop (List.mem_of_mem_take hx)))
  rw [hl] at this
  refine this.mono fun e w' ⟨g, he, hr', hg, hb⟩ => ⟨g, he, ?_, hg, hb⟩
  have e2 : kv .u16 ((m1.drop (j * 61)).take 61) = nums (dirW m1 j) := by
    rw [← kv_nums]
    unfold dirW
    rw [List.map_map]
    congr 1
    refine (List.map_id _).symm.trans (List.map_congr_left fun x hx => ?_)
    have := h.hm64 x (List.mem_of_mem_drop (List.mem_of_mem_take hx))
    simp only [id, Function.comp]
    rw [UInt16.toNat_ofNat']
    omega
  rw [← e2]
  exact hr'
set_option maxHeartbeats 2000000 in
theorem ppages {v w : World} {P d : Nat} {l : List Stp} (h : Pln w v.heap.size P d l) (hv : Below v.heap.size v w) {ta cb mb c : Nat} {s : Tl.St} {g1 d1 g3 d3 c1 c2 : Nat} {A1 A2 : Option Addr} {m1 m2 k1 k2 : List Nat}
    (hs : Src v ta cb mb c s g1 d1 g3 d3 c1 c2 A1 A2 m1 m2 k1 k2) (hfew : l.length < 80000) :
    Calls Tryz.prog 113 #[.pointer (some ⟨P, 0, none⟩), .pointer (some ⟨ta, 0, none⟩), .agg (lval g1 m1.length d1 g3 m2.length d3 A1 c1 k1.length A2 c2 k2.length).toArray] w (More w v.heap.size P d l (cntSteps s m1 k1 ++ dirSteps m1 m2 k2)) := by
  obtain ⟨bx, hbx⟩ : ∃ b, b = w.heap.size := ⟨_, rfl⟩
  have hr := alloc_rowV w 160 (lval g1 m1.length d1 g3 m2.length d3 A1 c1 k1.length A2 c2 k2.length)
  have hb := (Below.refl w.heap.size w).alloc (Nat.le_refl _) (.cells (lval g1 m1.length d1 g3 m2.length d3 A1 c1 k1.length A2 c2 k2.length).toArray 160)
  have HS := Lib.hid hs
  have HP := Lib.hid h
  rw [← hbx] at hr
  have HB0 := Lib.hid hb
  have HR0 := Lib.hid hr
  have hl1i : (k1.length : Int) ≤ 4096 := by have := hs.hl1; omega
  have hl2i : (k2.length : Int) ≤ 4096 := by have := hs.hl2; omega
  obtain ⟨B, hB⟩ : ∃ B, B = v.heap.size := ⟨_, rfl⟩
  have HVB := Lib.hid hB
  rw [← hB] at HP ⊢
  have HV0 := Lib.hid (show Below B v w from by rw [hB]; exact hv)
  clear h hs hr hb hB hv
  go_enter Tryz.func113, Tryz.ntmps113
  go_upto_region 1 with (fail)
  rw [← hbx]
  clear hbx
  generalize w.alloc (.cells (lval g1 m1.length d1 g3 m2.length d3 A1 c1 k1.length A2 c2 k2.length).toArray 160) = w0 at *
  have c2x := HR0.out.cellAt (i := 2) rfl
  have hvw : B ≤ w.heap.size := by have := HV0.out.size; have := HVB.out; omega
  have HW0 := Lib.hid (show Off plT (fun k => k < B) [] w w0 from Off.of_below _ _ _ HB0.out (Nat.le_refl _))
  have HP0 := Lib.hid (HP.out.below HB0.out)
  have HVW := Lib.hid (show ∀ wr, Off plT (fun k => k < B) [] w wr → Src wr ta cb mb c s g1 d1 g3 d3 c1 c2 A1 A2 m1 m2 k1 k2 from fun wr k => HS.out.kept (by rw [← HVB.out]; exact HV0.out.trans (off_below k hvw)))
  have HRW := Lib.hid (show ∀ wr, Off plT (fun k => k < B) [] w0 wr → RowV wr bx 160 (lval g1 m1.length d1 g3 m2.length d3 A1 c1 k1.length A2 c2 k2.length) from fun wr k => k.rowV HR0.out (by simp) rfl)
  clear HP HB0 HV0
  go_wp2_with fail
  clear c2x
  go_loopw [13] (fun i wr => ∃ k : Nat, k ≤ k1.length ∧ i = .int .i64 (k : Int) ∧ Hid (Pln wr B P d (l ++ cntSteps s m1 (k1.take k))) ∧ Hid (Off plT (fun k => k < B) [] w0 wr)) (fun i _ => k1.length - (Go.RowKit.intOf i).toNat)
  case atStart => exact ⟨0, Nat.zero_le _, rfl, Lib.hid (by rw [List.take_zero]; show Pln w0 B P d (l ++ []); rw [List.append_nil]; exact HP0.out), Lib.hid (Off.refl _ _ _ _)⟩
  case round =>
    obtain ⟨k, hk, rfl, HP, HO⟩ := hrel
    have HSR := Lib.hid (HVW.out wr (HW0.out.trans HO.out))
    have HRR := Lib.hid (HRW.out wr HO.out)
    by_cases hlt : k < k1.length
    · have hki : (k : Int) < (k1.length : Int) := by omega
      have hge : (0 : Int) ≤ (k : Int) := by omega
      obtain ⟨b1, o1, rfl, hb1, hc1⟩ := told_nat HSR.out.t1 hlt
      have HI := Lib.hid (HSR.out.hk1 _ (mem_getD hlt))
      have HNX := Lib.hid (show cntSteps s m1 (k1.take (k + 1)) = cntSteps s m1 (k1.take k) ++ [.w (m1.getD (k1.getD k 0) 0) (idxPage 5 (Pl.part s (k1.getD k 0)))] by
        unfold cntSteps
        have hg : k1.getD k 0 = k1[k] := by rw [List.getD_eq_getElem?_getD, List.getElem?_eq_getElem hlt]; rfl
        rw [List.take_add_one, List.getElem?_eq_getElem hlt, List.map_append, hg]
        rfl)
      generalize k1.getD k 0 = j at *
      have hji : (j : Int) < (m1.length : Int) := by have := HI.out.2; omega
      have hj0 : (0 : Int) ≤ (j : Int) := by omega
      obtain ⟨L0, hL0⟩ : ∃ L0, L0 = l ++ cntSteps s m1 (k1.take k) := ⟨_, rfl⟩
      have HL0 := HP
      rw [← hL0] at HL0
      have HLN := Lib.hid (show L0.length ≤ 90000 by rw [hL0, List.length_append, length_cntSteps, List.length_take]; have := HSR.out.hl1; omega)
      have HLE := Lib.hid hL0
      clear hL0 HP
      go_upto_region 4 with (fail)
      refine Inv2.wp_region_inv (fun b a wy => ∃ (z : Nat → Value) (z26 : Value), a = ⟨(List.toArray (Value.pointer (some ⟨P, 0, none⟩) :: Value.pointer (some ⟨ta, 0, none⟩) :: Value.agg (lval g1 m1.length d1 g3 m2.length d3 (some ⟨b1, o1, none⟩) c1 k1.length A2 c2 k2.length).toArray :: undef :: undef :: Value.pointer (some ⟨bx, 0, none⟩) :: undef :: Value.int IntKind.i64 ↑j :: undef :: undef :: Value.pointer (some ⟨bx, 2, none⟩) :: Value.slice (some ⟨b1, o1, none⟩) k1.length c1 :: Value.int IntKind.i64 ↑k1.length :: Value.int IntKind.i64 ↑k :: Value.bool true :: Value.pointer (some ⟨b1, o1 + k, none⟩) :: Value.int IntKind.i64 ↑j :: (z 17) :: (z 18) :: (z 19) :: (z 20) :: (z 21) :: (z 22) :: (z 23) :: (z 24) :: (z 25) :: z26 :: (z 27) :: u28 :: undef :: undef :: undef :: undef :: undef :: undef :: undef :: undef :: undef :: undef :: undef :: undef :: undef :: undef :: undef :: undef :: undef :: undef :: undef :: undef :: undef :: undef :: [])), []⟩ ∧ Hid ((b 0 = true → (z 17) = Value.pointer (some ⟨P, 0, none⟩)) ∧ (b 1 = true → (z 18) = .pointer (some ⟨bx, 0, none⟩)) ∧ (b 2 = true → (z 19) = .pointer (some ⟨bx, 0, none⟩)) ∧ (b 3 = true → (z 20) = .slice (some ⟨g1, 0, none⟩) m1.length d1) ∧ (b 4 = true → (z 21) = Value.int IntKind.i64 ↑j) ∧ (b 5 = true → (z 22) = .pointer (some ⟨g1, j, none⟩)) ∧ (b 6 = true → (z 23) = .int .i64 ((m1.getD j 0 : Nat) : Int)) ∧ (b 7 = true → (z 24) = Value.pointer (some ⟨ta, 0, none⟩)) ∧ (b 8 = true → (z 25) = Value.int IntKind.i64 ↑j) ∧ (b 10 = true → (z 27) = .tuple #[])) ∧ Hid (Below 0 wr wy) ∧ Hid (Off plT (fun k => k < B) [] wr wy ∧ (b 10 = false → Pln wy B P d L0) ∧ (b 9 = true → b 10 = false → ∃ g, z26 = .slice (some ⟨g, 0, none⟩) (Pl.many s j) (Pl.many s j) ∧ RowV wy g 34 (nums (Pl.part s j))) ∧ (b 10 = true → b 9 = true ∧ Pln wy B P d (L0 ++ [.w (m1.getD j 0) (idxPage 5 (Pl.part s j))])))) (by kernel_rfl) (by kernel_rfl) ?startC ?stepsC ?doneC
      case startC =>
        intro b hb
        refine ⟨fun s => if s = 17 then u17 else if s = 18 then u18 else if s = 19 then u19 else if s = 20 then u20 else if s = 21 then u21 else if s = 22 then u22 else if s = 23 then u23 else if s = 24 then u24 else if s = 25 then u25 else if s = 27 then u27 else undef, u26, rfl, Lib.hid ⟨?_, ?_, ?_, ?_, ?_, ?_, ?_, ?_, ?_, ?_⟩, Lib.hid ((show Still wr wr.drew from ⟨rfl, rfl, rfl, rfl⟩).below _), Lib.hid (⟨(Off.refl _ _ _ _).trans (Off.of_below _ _ _ ((show Still wr wr.drew from ⟨rfl, rfl, rfl, rfl⟩).below _) (Nat.le_refl _)), fun _ => HL0.out.below ((show Still wr wr.drew from ⟨rfl, rfl, rfl, rfl⟩).below _), fun e => absurd (e.symm.trans (hb 9 (by decide))) (by decide), fun e => absurd (e.symm.trans (hb 10 (by decide))) (by decide)⟩)⟩
        all_goals (intro e; first | rfl | (rw [hb _ (by decide)] at e; cases e))
      case stepsC =>
        refine ⟨?_, ?_, ?_, ?_, ?_, ?_, ?_, ?_, ?_, ?_, ?_, trivial⟩
        · rintro b a wy hb hd ⟨z, z26, rfl, HV, HW, HX⟩ K hK
          clear hd
          go_simp
          have V := HV.out
          exact hK _ _ ⟨fun s => if s = 17 then Value.pointer (some ⟨P, 0, none⟩) else z s, _, rfl, Lib.hid ⟨fun _ => rfl, V.2.1, V.2.2.1, V.2.2.2.1, V.2.2.2.2.1, V.2.2.2.2.2.1, V.2.2.2.2.2.2.1, V.2.2.2.2.2.2.2.1, V.2.2.2.2.2.2.2.2.1, V.2.2.2.2.2.2.2.2.2⟩, HW, HX⟩
        · rintro b a wy hb hd ⟨z, z26, rfl, HV, HW, HX⟩ K hK
          clear hd
          go_simp
          have V := HV.out
          exact hK _ _ ⟨fun s => if s = 18 then .pointer (some ⟨bx, 0, none⟩) else z s, _, rfl, Lib.hid ⟨V.1, fun _ => rfl, V.2.2.1, V.2.2.2.1, V.2.2.2.2.1, V.2.2.2.2.2.1, V.2.2.2.2.2.2.1, V.2.2.2.2.2.2.2.1, V.2.2.2.2.2.2.2.2.1, V.2.2.2.2.2.2.2.2.2⟩, HW, HX⟩
        · rintro b a wy hb hd ⟨z, z26, rfl, HV, HW, HX⟩ K hK
          simp [Region.binds] at hd
          have e1 : (z 18) = .pointer (some ⟨bx, 0, none⟩) := (HV.out.2.1) (by simp [hd])
          clear hd
          go_simp
          have V := HV.out
          exact hK _ _ ⟨fun s => if s = 19 then .pointer (some ⟨bx, 0, none⟩) else if s = 18 then .pointer (some ⟨bx, 0, none⟩) else z s, _, rfl, Lib.hid ⟨V.1, fun _ => rfl, fun _ => rfl, V.2.2.2.1, V.2.2.2.2.1, V.2.2.2.2.2.1, V.2.2.2.2.2.2.1, V.2.2.2.2.2.2.2.1, V.2.2.2.2.2.2.2.2.1, V.2.2.2.2.2.2.2.2.2⟩, HW, HX⟩
        · rintro b a wy hb hd ⟨z, z26, rfl, HV, HW, HX⟩ K hK
          simp [Region.binds] at hd
          have e2 : (z 19) = .pointer (some ⟨bx, 0, none⟩) := (HV.out.2.2.1) (by simp [hd])
          clear hd
          obtain ⟨X0, X1, X2, X3⟩ := HX.out
          have cc := (HRW.out wy (HO.out.trans X0)).cellAt (i := 0) rfl
          clear X0 X1 X2 X3
          go_simp
          have V := HV.out
          exact hK _ _ ⟨fun s => if s = 20 then .slice (some ⟨g1, 0, none⟩) m1.length d1 else if s = 19 then .pointer (some ⟨bx, 0, none⟩) else z s, _, rfl, Lib.hid ⟨V.1, V.2.1, fun _ => rfl, fun _ => rfl, V.2.2.2.2.1, V.2.2.2.2.2.1, V.2.2.2.2.2.2.1, V.2.2.2.2.2.2.2.1, V.2.2.2.2.2.2.2.2.1, V.2.2.2.2.2.2.2.2.2⟩, HW, HX⟩
        · rintro b a wy hb hd ⟨z, z26, rfl, HV, HW, HX⟩ K hK
          clear hd
          go_simp
          have V := HV.out
          exact hK _ _ ⟨fun s => if s = 21 then Value.int IntKind.i64 ↑j else z s, _, rfl, Lib.hid ⟨V.1, V.2.1, V.2.2.1, V.2.2.2.1, fun _ => rfl, V.2.2.2.2.2.1, V.2.2.2.2.2.2.1, V.2.2.2.2.2.2.2.1, V.2.2.2.2.2.2.2.2.1, V.2.2.2.2.2.2.2.2.2⟩, HW, HX⟩
        · rintro b a wy hb hd ⟨z, z26, rfl, HV, HW, HX⟩ K hK
          simp [Region.binds] at hd
          have e3 : (z 20) = .slice (some ⟨g1, 0, none⟩) m1.length d1 := (HV.out.2.2.2.1) (by simp [hd])
          have e4 : (z 21) = Value.int IntKind.i64 ↑j := (HV.out.2.2.2.2.1) (by simp [hd])
          clear hd
          go_simp
          have V := HV.out
          exact hK _ _ ⟨fun s => if s = 22 then .pointer (some ⟨g1, j, none⟩) else if s = 20 then .slice (some ⟨g1, 0, none⟩) m1.length d1 else if s = 21 then Value.int IntKind.i64 ↑j else z s, _, rfl, Lib.hid ⟨V.1, V.2.1, V.2.2.1, fun _ => rfl, fun _ => rfl, fun _ => rfl, V.2.2.2.2.2.2.1, V.2.2.2.2.2.2.2.1, V.2.2.2.2.2.2.2.2.1, V.2.2.2.2.2.2.2.2.2⟩, HW, HX⟩
        · rintro b a wy hb hd ⟨z, z26, rfl, HV, HW, HX⟩ K hK
          simp [Region.binds] at hd
          have e5 : (z 22) = .pointer (some ⟨g1, j, none⟩) := (HV.out.2.2.2.2.2.1) (by simp [hd])
          clear hd
          obtain ⟨X0, X1, X2, X3⟩ := HX.out
          obtain ⟨sp, hr1⟩ := (HVW.out wy (HW0.out.trans (HO.out.trans X0))).r1
          have cc := row_int hr1 HI.out.2
          clear X0 X1 X2 X3
          go_simp
          have V := HV.out
          exact hK _ _ ⟨fun s => if s = 23 then .int .i64 ((m1.getD j 0 : Nat) : Int) else if s = 22 then .pointer (some ⟨g1, j, none⟩) else z s, _, rfl, Lib.hid ⟨V.1, V.2.1, V.2.2.1, V.2.2.2.1, V.2.2.2.2.1, fun _ => rfl, fun _ => rfl, V.2.2.2.2.2.2.2.1, V.2.2.2.2.2.2.2.2.1, V.2.2.2.2.2.2.2.2.2⟩, HW, HX⟩
        · rintro b a wy hb hd ⟨z, z26, rfl, HV, HW, HX⟩ K hK
          clear hd
          go_simp
          have V := HV.out
          exact hK _ _ ⟨fun s => if s = 24 then Value.pointer (some ⟨ta, 0, none⟩) else z s, _, rfl, Lib.hid ⟨V.1, V.2.1, V.2.2.1, V.2.2.2.1, V.2.2.2.2.1, V.2.2.2.2.2.1, V.2.2.2.2.2.2.1, fun _ => rfl, V.2.2.2.2.2.2.2.2.1, V.2.2.2.2.2.2.2.2.2⟩, HW, HX⟩
        · rintro b a wy hb hd ⟨z, z26, rfl, HV, HW, HX⟩ K hK
          clear hd
          go_simp
          have V := HV.out
          exact hK _ _ ⟨fun s => if s = 25 then Value.int IntKind.i64 ↑j else z s, _, rfl, Lib.hid ⟨V.1, V.2.1, V.2.2.1, V.2.2.2.1, V.2.2.2.2.1, V.2.2.2.2.2.1, V.2.2.2.2.2.2.1, V.2.2.2.2.2.2.2.1, fun _ => rfl, V.2.2.2.2.2.2.2.2.2⟩, HW, HX⟩
        · rintro b a wy hb hd ⟨z, z26, rfl, HV, HW, HX⟩ K hK
          simp [Region.binds] at hd
          have e7 : (z 24) = Value.pointer (some ⟨ta, 0, none⟩) := (HV.out.2.2.2.2.2.2.2.1) (by simp [hd])
          have e8 : (z 25) = Value.int IntKind.i64 ↑j := (HV.out.2.2.2.2.2.2.2.2.1) (by simp [hd])
          clear hd
          obtain ⟨X0, X1, X2, X3⟩ := HX.out
          have b10 : b 10 = false := by
            rcases Bool.eq_false_or_eq_true (b 10) with e | e
            · exact absurd (hb.symm.trans (X3 e).1) (by decide)
            · exact e
          have HC := Lib.hid (And.intro X0 (And.intro (X1 b10) b10))
          have HSY := Lib.hid (HVW.out wy (HW0.out.trans (HO.out.trans X0)))
          clear X0 X1 X2 X3 b10 HX
          go_simp
          go_at_call 164
          refine (counts_yes HSY.out.ht j HI.out.1).mono ?_
          rintro e wz ⟨g, rfl, hrow, hlo, kz⟩
          try go_simp
          have V := HV.out
          exact hK _ _ ⟨fun s => if s = 24 then Value.pointer (some ⟨ta, 0, none⟩) else if s = 25 then Value.int IntKind.i64 ↑j else z s, _, rfl, Lib.hid ⟨V.1, V.2.1, V.2.2.1, V.2.2.2.1, V.2.2.2.2.1, V.2.2.2.2.2.1, V.2.2.2.2.2.2.1, fun _ => rfl, fun _ => rfl, V.2.2.2.2.2.2.2.2.2⟩, Lib.hid (HW.out.trans (kz.mono (Nat.zero_le _))), Lib.hid ⟨HC.out.1.trans (Off.of_below _ _ _ kz (Nat.le_refl _)), fun _ => HC.out.2.1.below kz, fun _ _ => ⟨g, rfl, hrow⟩, fun e => absurd (HC.out.2.2.symm.trans e) (by decide)⟩⟩
        · rintro b a wy hb hd ⟨z, z26, rfl, HV, HW, HX⟩ K hK
          simp [Region.binds] at hd
          have e0 : (z 17) = Value.pointer (some ⟨P, 0, none⟩) := (HV.out.1) (by simp [hd])
          have e6 : (z 23) = .int .i64 ((m1.getD j 0 : Nat) : Int) := (HV.out.2.2.2.2.2.2.1) (by simp [hd])
          have dd9 : b 9 = true := by simp [hd]
          clear hd
          obtain ⟨X0, X1, X2, X3⟩ := HX.out
          obtain ⟨g, zz, hrow⟩ := X2 dd9 hb
          subst zz
          have HC := Lib.hid (And.intro X0 (And.intro (X1 hb) hrow))
          have HSY := Lib.hid (HVW.out wy (HW0.out.trans (HO.out.trans X0)))
          have hbw : B ≤ wy.heap.size := Nat.le_trans hvw (HW0.out.trans (HO.out.trans X0)).size
          clear X0 X1 X2 X3 hrow HX
          go_simp
          go_at_call 163
          refine (prow5 HC.out.2.1 hbw (by have := HLN.out; omega) (m1.getD j 0) (wd_row HC.out.2.2 (Pl.many s j) (Pl.length_part s j) (by unfold Pl.many; omega)) (by unfold Pl.many; omega)).mono ?_
          rintro e wz ⟨rfl, hp, ho⟩
          try go_simp
          have V := HV.out
          exact hK _ _ ⟨fun s => if s = 27 then .tuple #[] else if s = 17 then Value.pointer (some ⟨P, 0, none⟩) else if s = 23 then .int .i64 ((m1.getD j 0 : Nat) : Int) else z s, _, rfl, Lib.hid ⟨fun _ => rfl, V.2.1, V.2.2.1, V.2.2.2.1, V.2.2.2.2.1, V.2.2.2.2.2.1, fun _ => rfl, V.2.2.2.2.2.2.2.1, V.2.2.2.2.2.2.2.2.1, fun _ => rfl⟩, Lib.hid (HW.out.trans ⟨ho.os, ho.tape, ho.output, ho.size, fun k hk => absurd hk (Nat.not_lt_zero k)⟩), Lib.hid ⟨HC.out.1.trans ho, fun e => (by cases e), fun _ e => (by cases e), fun _ => ⟨dd9, hp⟩⟩⟩
      case doneC =>
        rintro b a w9 hb ⟨z, z26, rfl, HV, HW, HX⟩
        have e0 := (HV.out.1) (hb 0)
        have e1 := (HV.out.2.1) (hb 1)
        have e2 := (HV.out.2.2.1) (hb 2)
        have e3 := (HV.out.2.2.2.1) (hb 3)
        have e4 := (HV.out.2.2.2.2.1) (hb 4)
        have e5 := (HV.out.2.2.2.2.2.1) (hb 5)
        have e6 := (HV.out.2.2.2.2.2.2.1) (hb 6)
        have e7 := (HV.out.2.2.2.2.2.2.2.1) (hb 7)
        have e8 := (HV.out.2.2.2.2.2.2.2.2.1) (hb 8)
        have e10 := (HV.out.2.2.2.2.2.2.2.2.2) (hb 10)
        simp only [e0, e1, e2, e3, e4, e5, e6, e7, e8, e10]
        clear HV e0 e1 e2 e3 e4 e5 e6 e7 e8 e10
        obtain ⟨X0, _, _, X3⟩ := HX.out
        have H9 := Lib.hid (And.intro X0 (X3 (hb 10)).2)
        clear HX HW hb X0 X3
        go_wp2_with fail
        go_roundw
        case rel => exact ⟨k + 1, by omega, by go_num, Lib.hid (by rw [HNX.out, ← List.append_assoc, ← HLE.out]; exact H9.out.2), Lib.hid (HO.out.trans H9.out.1)⟩
        case measure => simp [Go.RowKit.intOf]; omega
    · have hki : ¬ (k : Int) < (k1.length : Int) := by omega
      obtain rfl : k = k1.length := by omega
      rw [List.take_length] at HP
      have c3x := HRR.out.cellAt (i := 3) rfl
      obtain ⟨l', hl'⟩ : ∃ l', l' = l ++ cntSteps s m1 k1 := ⟨_, rfl⟩
      rw [← hl'] at HP
      have HLL := Lib.hid hl'
      have HLQ := Lib.hid (show l'.length ≤ 85000 by rw [hl', List.length_append, length_cntSteps]; have := HSR.out.hl1; omega)
      have HO1 := HO
      have HP1 := HP
      clear hl' HP HO hki
      obtain ⟨w1, hw1⟩ : ∃ x, x = wr := ⟨_, rfl⟩
      subst hw1
      go_wp2_with fail
      clear c3x
      go_loopw [32] (fun i wr => ∃ k : Nat, k ≤ k2.length ∧ i = .int .i64 (k : Int) ∧ Hid (Pln wr B P d (l' ++ dirSteps m1 m2 (k2.take k))) ∧ Hid (Off plT (fun k => k < B) [] w0 wr)) (fun i _ => k2.length - (Go.RowKit.intOf i).toNat)
      case atStart => exact ⟨0, Nat.zero_le _, rfl, Lib.hid (by rw [List.take_zero]; show Pln _ B P d (l' ++ []); rw [List.append_nil]; exact HP1.out), HO1⟩
      case round =>
        obtain ⟨k, hk, rfl, HP, HO⟩ := hrel
        have HSR := Lib.hid (HVW.out wr (HW0.out.trans HO.out))
        have HRR := Lib.hid (HRW.out wr HO.out)
        by_cases hlt : k < k2.length
        · have hki : (k : Int) < (k2.length : Int) := by omega
          have hge : (0 : Int) ≤ (k : Int) := by omega
          obtain ⟨b1, o1, rfl, hb1, hc1⟩ := told_nat HSR.out.t2 hlt
          have HI := Lib.hid (HSR.out.hk2 _ (mem_getD hlt))
          have HK2 := Lib.hid (show k2 ≠ [] from by rintro rfl; simp at hlt)
          have HNX := Lib.hid (show dirSteps m1 m2 (k2.take (k + 1)) = dirSteps m1 m2 (k2.take k) ++ [.w (m2.getD (k2.getD k 0) 0) (idxPage 4 (dirW m1 (k2.getD k 0)))] by
            unfold dirSteps
            have hg : k2.getD k 0 = k2[k] := by rw [List.getD_eq_getElem?_getD, List.getElem?_eq_getElem hlt]; rfl
            rw [List.take_add_one, List.getElem?_eq_getElem hlt, List.map_append, hg]
            rfl)
          generalize k2.getD k 0 = j at *
          have hji : (j : Int) < (m2.length : Int) := by have := HI.out.1; omega
          have hj0 : (0 : Int) ≤ (j : Int) := by omega
          obtain ⟨L0, hL0⟩ : ∃ L0, L0 = l' ++ dirSteps m1 m2 (k2.take k) := ⟨_, rfl⟩
          have HL0 := HP
          rw [← hL0] at HL0
          have HLN := Lib.hid (show L0.length ≤ 90000 by rw [hL0, List.length_append, length_dirSteps, List.length_take]; have := HSR.out.hl2; have := HLQ.out; omega)
          have HLE := Lib.hid hL0
          clear hL0 HP
          go_upto_region 9 with (fail)
          refine Inv2.wp_region_inv (fun b a wy => ∃ (z : Nat → Value) (z48 : Value), a = ⟨(List.toArray (Value.pointer (some ⟨P, 0, none⟩) :: Value.pointer (some ⟨ta, 0, none⟩) :: Value.agg (lval g1 m1.length d1 g3 m2.length d3 A1 c1 k1.length (some ⟨b1, o1, none⟩) c2 k2.length).toArray :: undef :: undef :: Value.pointer (some ⟨bx, 0, none⟩) :: undef :: u7 :: undef :: Value.int IntKind.i64 ↑j :: Value.pointer (some ⟨bx, 2, none⟩) :: Value.slice A1 k1.length c1 :: Value.int IntKind.i64 ↑k1.length :: Value.int IntKind.i64 ↑k1.length :: Value.bool false :: u15 :: u16 :: u17 :: u18 :: u19 :: u20 :: u21 :: u22 :: u23 :: u24 :: u25 :: u26 :: u27 :: u28 :: Value.pointer (some ⟨bx, 3, none⟩) :: Value.slice (some ⟨b1, o1, none⟩) k2.length c2 :: Value.int IntKind.i64 ↑k2.length :: Value.int IntKind.i64 ↑k :: Value.bool true :: Value.pointer (some ⟨b1, o1 + k, none⟩) :: Value.int IntKind.i64 ↑j :: (z 36) :: (z 37) :: (z 38) :: (z 39) :: (z 40) :: (z 41) :: (z 42) :: (z 43) :: (z 44) :: (z 45) :: (z 46) :: (z 47) :: z48 :: (z 49) :: u50 :: [])), []⟩ ∧ Hid ((b 0 = true → (z 36) = Value.pointer (some ⟨P, 0, none⟩)) ∧ (b 1 = true → (z 37) = .pointer (some ⟨bx, 0, none⟩)) ∧ (b 2 = true → (z 38) = .pointer (some ⟨bx, 1, none⟩)) ∧ (b 3 = true → (z 39) = .slice (some ⟨g3, 0, none⟩) m2.length d3) ∧ (b 4 = true → (z 40) = Value.int IntKind.i64 ↑j) ∧ (b 5 = true → (z 41) = .pointer (some ⟨g3, j, none⟩)) ∧ (b 6 = true → (z 42) = .int .i64 ((m2.getD j 0 : Nat) : Int)) ∧ (b 7 = true → (z 43) = .pointer (some ⟨bx, 0, none⟩)) ∧ (b 8 = true → (z 44) = .pointer (some ⟨bx, 0, none⟩)) ∧ (b 9 = true → (z 45) = .slice (some ⟨g1, 0, none⟩) m1.length d1) ∧ (b 10 = true → (z 46) = Value.int IntKind.i64 ↑j) ∧ (b 11 = true → (z 47) = .slice (some ⟨g1, j * 61, none⟩) (min 61 (m1.length - j * 61)) (d1 - j * 61)) ∧ (b 13 = true → (z 49) = .tuple #[])) ∧ Hid (Below 0 wr wy) ∧ Hid (Off plT (fun k => k < B) [] wr wy ∧ (b 13 = false → Pln wy B P d L0) ∧ (b 12 = true → b 13 = false → ∃ g, z48 = .slice (some ⟨g, 0, none⟩) (min 61 (m1.length - j * 61)) (min 61 (m1.length - j * 61)) ∧ RowV wy g 34 (nums (dirW m1 j))) ∧ (b 13 = true → b 12 = true ∧ Pln wy B P d (L0 ++ [.w (m2.getD j 0) (idxPage 4 (dirW m1 j))])))) (by kernel_rfl) (by kernel_rfl) ?startE ?stepsE ?doneE
          case startE =>
            intro b hb
            refine ⟨fun s => if s = 36 then u36 else if s = 37 then u37 else if s = 38 then u38 else if s = 39 then u39 else if s = 40 then u40 else if s = 41 then u41 else if s = 42 then u42 else if s = 43 then u43 else if s = 44 then u44 else if s = 45 then u45 else if s = 46 then u46 else if s = 47 then u47 else if s = 49 then u49 else undef, u48, rfl, Lib.hid ⟨?_, ?_, ?_, ?_, ?_, ?_, ?_, ?_, ?_, ?_, ?_, ?_, ?_⟩, Lib.hid ((show Still wr wr.drew from ⟨rfl, rfl, rfl, rfl⟩).below _), Lib.hid (⟨(Off.refl _ _ _ _).trans (Off.of_below _ _ _ ((show Still wr wr.drew from ⟨rfl, rfl, rfl, rfl⟩).below _) (Nat.le_refl _)), fun _ => HL0.out.below ((show Still wr wr.drew from ⟨rfl, rfl, rfl, rfl⟩).below _), fun e => absurd (e.symm.trans (hb 12 (by decide))) (by decide), fun e => absurd (e.symm.trans (hb 13 (by decide))) (by decide)⟩)⟩
            all_goals (intro e; first | rfl | (rw [hb _ (by decide)] at e; cases e))
          case stepsE =>
            refine ⟨?_, ?_, ?_, ?_, ?_, ?_, ?_, ?_, ?_, ?_, ?_, ?_, ?_, ?_, trivial⟩
            · rintro b a wy hb hd ⟨z, z48, rfl, HV, HW, HX⟩ K hK
              clear hd
              go_simp
              have V := HV.out
              exact hK _ _ ⟨fun s => if s = 36 then Value.pointer (some ⟨P, 0, none⟩) else z s, _, rfl, Lib.hid ⟨fun _ => rfl, V.2.1, V.2.2.1, V.2.2.2.1, V.2.2.2.2.1, V.2.2.2.2.2.1, V.2.2.2.2.2.2.1, V.2.2.2.2.2.2.2.1, V.2.2.2.2.2.2.2.2.1, V.2.2.2.2.2.2.2.2.2.1, V.2.2.2.2.2.2.2.2.2.2.1, V.2.2.2.2.2.2.2.2.2.2.2.1, V.2.2.2.2.2.2.2.2.2.2.2.2⟩, HW, HX⟩
            · rintro b a wy hb hd ⟨z, z48, rfl, HV, HW, HX⟩ K hK
              clear hd
              go_simp
              have V := HV.out
              exact hK _ _ ⟨fun s => if s = 37 then .pointer (some ⟨bx, 0, none⟩) else z s, _, rfl, Lib.hid ⟨V.1, fun _ => rfl, V.2.2.1, V.2.2.2.1, V.2.2.2.2.1, V.2.2.2.2.2.1, V.2.2.2.2.2.2.1, V.2.2.2.2.2.2.2.1, V.2.2.2.2.2.2.2.2.1, V.2.2.2.2.2.2.2.2.2.1, V.2.2.2.2.2.2.2.2.2.2.1, V.2.2.2.2.2.2.2.2.2.2.2.1, V.2.2.2.2.2.2.2.2.2.2.2.2⟩, HW, HX⟩
            · rintro b a wy hb hd ⟨z, z48, rfl, HV, HW, HX⟩ K hK
              simp [Region.binds] at hd
              have e1 : (z 37) = .pointer (some ⟨bx, 0, none⟩) := (HV.out.2.1) (by simp [hd])
              clear hd
              go_simp
              have V := HV.out
              exact hK _ _ ⟨fun s => if s = 38 then .pointer (some ⟨bx, 1, none⟩) else if s = 37 then .pointer (some ⟨bx, 0, none⟩) else z s, _, rfl, Lib.hid ⟨V.1, fun _ => rfl, fun _ => rfl, V.2.2.2.1, V.2.2.2.2.1, V.2.2.2.2.2.1, V.2.2.2.2.2.2.1, V.2.2.2.2.2.2.2.1, V.2.2.2.2.2.2.2.2.1, V.2.2.2.2.2.2.2.2.2.1, V.2.2.2.2.2.2.2.2.2.2.1, V.2.2.2.2.2.2.2.2.2.2.2.1, V.2.2.2.2.2.2.2.2.2.2.2.2⟩, HW, HX⟩
            · rintro b a wy hb hd ⟨z, z48, rfl, HV, HW, HX⟩ K hK
              simp [Region.binds] at hd
              have e2 : (z 38) = .pointer (some ⟨bx, 1, none⟩) := (HV.out.2.2.1) (by simp [hd])
              clear hd
              obtain ⟨X0, X1, X2, X3⟩ := HX.out
              have cc := (HRW.out wy (HO.out.trans X0)).cellAt (i := 1) rfl
              clear X0 X1 X2 X3
              go_simp
              have V := HV.out
              exact hK _ _ ⟨fun s => if s = 39 then .slice (some ⟨g3, 0, none⟩) m2.length d3 else if s = 38 then .pointer (some ⟨bx, 1, none⟩) else z s, _, rfl, Lib.hid ⟨V.1, V.2.1, fun _ => rfl, fun _ => rfl, V.2.2.2.2.1, V.2.2.2.2.2.1, V.2.2.2.2.2.2.1, V.2.2.2.2.2.2.2.1, V.2.2.2.2.2.2.2.2.1, V.2.2.2.2.2.2.2.2.2.1, V.2.2.2.2.2.2.2.2.2.2.1, V.2.2.2.2.2.2.2.2.2.2.2.1, V.2.2.2.2.2.2.2.2.2.2.2.2⟩, HW, HX⟩
            · rintro b a wy hb hd ⟨z, z48, rfl, HV, HW, HX⟩ K hK
              clear hd
              go_simp
              have V := HV.out
              exact hK _ _ ⟨fun s => if s = 40 then Value.int IntKind.i64 ↑j else z s, _, rfl, Lib.hid ⟨V.1, V.2.1, V.2.2.1, V.2.2.2.1, fun _ => rfl, V.2.2.2.2.2.1, V.2.2.2.2.2.2.1, V.2.2.2.2.2.2.2.1, V.2.2.2.2.2.2.2.2.1, V.2.2.2.2.2.2.2.2.2.1, V.2.2.2.2.2.2.2.2.2.2.1, V.2.2.2.2.2.2.2.2.2.2.2.1, V.2.2.2.2.2.2.2.2.2.2.2.2⟩, HW, HX⟩
            · rintro b a wy hb hd ⟨z, z48, rfl, HV, HW, HX⟩ K hK
              simp [Region.binds] at hd
              have e3 : (z 39) = .slice (some ⟨g3, 0, none⟩) m2.length d3 := (HV.out.2.2.2.1) (by simp [hd])
              have e4 : (z 40) = Value.int IntKind.i64 ↑j := (HV.out.2.2.2.2.1) (by simp [hd])
              clear hd
              go_simp
              have V := HV.out
              exact hK _ _ ⟨fun s => if s = 41 then .pointer (some ⟨g3, j, none⟩) else if s = 39 then .slice (some ⟨g3, 0, none⟩) m2.length d3 else if s = 40 then Value.int IntKind.i64 ↑j else z s, _, rfl, Lib.hid ⟨V.1, V.2.1, V.2.2.1, fun _ => rfl, fun _ => rfl, fun _ => rfl, V.2.2.2.2.2.2.1, V.2.2.2.2.2.2.2.1, V.2.2.2.2.2.2.2.2.1, V.2.2.2.2.2.2.2.2.2.1, V.2.2.2.2.2.2.2.2.2.2.1, V.2.2.2.2.2.2.2.2.2.2.2.1, V.2.2.2.2.2.2.2.2.2.2.2.2⟩, HW, HX⟩
            · rintro b a wy hb hd ⟨z, z48, rfl, HV, HW, HX⟩ K hK
              simp [Region.binds] at hd
              have e5 : (z 41) = .pointer (some ⟨g3, j, none⟩) := (HV.out.2.2.2.2.2.1) (by simp [hd])
              clear hd
              obtain ⟨X0, X1, X2, X3⟩ := HX.out
              obtain ⟨sp, hr1⟩ := (HVW.out wy (HW0.out.trans (HO.out.trans X0))).r3
              have cc := row_int hr1 HI.out.1
              clear X0 X1 X2 X3
              go_simp
              have V := HV.out
              exact hK _ _ ⟨fun s => if s = 42 then .int .i64 ((m2.getD j 0 : Nat) : Int) else if s = 41 then .pointer (some ⟨g3, j, none⟩) else z s, _, rfl, Lib.hid ⟨V.1, V.2.1, V.2.2.1, V.2.2.2.1, V.2.2.2.2.1, fun _ => rfl, fun _ => rfl, V.2.2.2.2.2.2.2.1, V.2.2.2.2.2.2.2.2.1, V.2.2.2.2.2.2.2.2.2.1, V.2.2.2.2.2.2.2.2.2.2.1, V.2.2.2.2.2.2.2.2.2.2.2.1, V.2.2.2.2.2.2.2.2.2.2.2.2⟩, HW, HX⟩
            · rintro b a wy hb hd ⟨z, z48, rfl, HV, HW, HX⟩ K hK
              clear hd
              go_simp
              have V := HV.out
              exact hK _ _ ⟨fun s => if s = 43 then .pointer (some ⟨bx, 0, none⟩) else z s, _, rfl, Lib.hid ⟨V.1, V.2.1, V.2.2.1, V.2.2.2.1, V.2.2.2.2.1, V.2.2.2.2.2.1, V.2.2.2.2.2.2.1, fun _ => rfl, V.2.2.2.2.2.2.2.2.1, V.2.2.2.2.2.2.2.2.2.1, V.2.2.2.2.2.2.2.2.2.2.1, V.2.2.2.2.2.2.2.2.2.2.2.1, V.2.2.2.2.2.2.2.2.2.2.2.2⟩, HW, HX⟩
            · rintro b a wy hb hd ⟨z, z48, rfl, HV, HW, HX⟩ K hK
              simp [Region.binds] at hd
              have e7 : (z 43) = .pointer (some ⟨bx, 0, none⟩) := (HV.out.2.2.2.2.2.2.2.1) (by simp [hd])
              clear hd
              go_simp
              have V := HV.out
              exact hK _ _ ⟨fun s => if s = 44 then .pointer (some ⟨bx, 0, none⟩) else if s = 43 then .pointer (some ⟨bx, 0, none⟩) else z s, _, rfl, Lib.hid ⟨V.1, V.2.1, V.2.2.1, V.2.2.2.1, V.2.2.2.2.1, V.2.2.2.2.2.1, V.2.2.2.2.2.2.1, fun _ => rfl, fun _ => rfl, V.2.2.2.2.2.2.2.2.2.1, V.2.2.2.2.2.2.2.2.2.2.1, V.2.2.2.2.2.2.2.2.2.2.2.1, V.2.2.2.2.2.2.2.2.2.2.2.2⟩, HW, HX⟩
            · rintro b a wy hb hd ⟨z, z48, rfl, HV, HW, HX⟩ K hK
              simp [Region.binds] at hd
              have e8 : (z 44) = .pointer (some ⟨bx, 0, none⟩) := (HV.out.2.2.2.2.2.2.2.2.1) (by simp [hd])
              clear hd
              obtain ⟨X0, X1, X2, X3⟩ := HX.out
              have cc := (HRW.out wy (HO.out.trans X0)).cellAt (i := 0) rfl
              clear X0 X1 X2 X3
              go_simp
              have V := HV.out
              exact hK _ _ ⟨fun s => if s = 45 then .slice (some ⟨g1, 0, none⟩) m1.length d1 else if s = 44 then .pointer (some ⟨bx, 0, none⟩) else z s, _, rfl, Lib.hid ⟨V.1, V.2.1, V.2.2.1, V.2.2.2.1, V.2.2.2.2.1, V.2.2.2.2.2.1, V.2.2.2.2.2.2.1, V.2.2.2.2.2.2.2.1, fun _ => rfl, fun _ => rfl, V.2.2.2.2.2.2.2.2.2.2.1, V.2.2.2.2.2.2.2.2.2.2.2.1, V.2.2.2.2.2.2.2.2.2.2.2.2⟩, HW, HX⟩
            · rintro b a wy hb hd ⟨z, z48, rfl, HV, HW, HX⟩ K hK
              clear hd
              go_simp
              have V := HV.out
              exact hK _ _ ⟨fun s => if s = 46 then Value.int IntKind.i64 ↑j else z s, _, rfl, Lib.hid ⟨V.1, V.2.1, V.2.2.1, V.2.2.2.1, V.2.2.2.2.1, V.2.2.2.2.2.1, V.2.2.2.2.2.2.1, V.2.2.2.2.2.2.2.1, V.2.2.2.2.2.2.2.2.1, V.2.2.2.2.2.2.2.2.2.1, fun _ => rfl, V.2.2.2.2.2.2.2.2.2.2.2.1, V.2.2.2.2.2.2.2.2.2.2.2.2⟩, HW, HX⟩
            · rintro b a wy hb hd ⟨z, z48, rfl, HV, HW, HX⟩ K hK
              simp [Region.binds] at hd
              have e9 : (z 45) = .slice (some ⟨g1, 0, none⟩) m1.length d1 := (HV.out.2.2.2.2.2.2.2.2.2.1) (by simp [hd])
              have e10 : (z 46) = Value.int IntKind.i64 ↑j := (HV.out.2.2.2.2.2.2.2.2.2.2.1) (by simp [hd])
              clear hd
              go_simp
              go_at_call 166
              refine (part_int j HI.out.2 (HSR.out.hd1 HK2.out) (HSR.out.hd1m HK2.out) HSR.out.hm).mono ?_
              rintro e wz ⟨rfl, rfl⟩
              try go_simp
              have V := HV.out
              exact hK _ _ ⟨fun s => if s = 47 then .slice (some ⟨g1, j * 61, none⟩) (min 61 (m1.length - j * 61)) (d1 - j * 61) else if s = 45 then .slice (some ⟨g1, 0, none⟩) m1.length d1 else if s = 46 then Value.int IntKind.i64 ↑j else z s, _, rfl, Lib.hid ⟨V.1, V.2.1, V.2.2.1, V.2.2.2.1, V.2.2.2.2.1, V.2.2.2.2.2.1, V.2.2.2.2.2.2.1, V.2.2.2.2.2.2.2.1, V.2.2.2.2.2.2.2.2.1, fun _ => rfl, fun _ => rfl, fun _ => rfl, V.2.2.2.2.2.2.2.2.2.2.2.2⟩, HW, HX⟩
            · rintro b a wy hb hd ⟨z, z48, rfl, HV, HW, HX⟩ K hK
              simp [Region.binds] at hd
              have e11 : (z 47) = .slice (some ⟨g1, j * 61, none⟩) (min 61 (m1.length - j * 61)) (d1 - j * 61) := (HV.out.2.2.2.2.2.2.2.2.2.2.2.1) (by simp [hd])
              clear hd
              obtain ⟨X0, X1, X2, X3⟩ := HX.out
              have b13 : b 13 = false := by
                rcases Bool.eq_false_or_eq_true (b 13) with e | e
                · exact absurd (hb.symm.trans (X3 e).1) (by decide)
                · exact e
              have HC := Lib.hid (And.intro X0 (And.intro (X1 b13) b13))
              have HSY := Lib.hid (HVW.out wy (HW0.out.trans (HO.out.trans X0)))
              clear X0 X1 X2 X3 b13 HX
              go_simp
              go_at_call 165
              refine (as_part HSY.out (HI.out.2)).mono ?_
              rintro e wz ⟨g, rfl, hrow, hlo, kz⟩
              try go_simp
              have V := HV.out
              exact hK _ _ ⟨fun s => if s = 47 then .slice (some ⟨g1, j * 61, none⟩) (min 61 (m1.length - j * 61)) (d1 - j * 61) else z s, _, rfl, Lib.hid ⟨V.1, V.2.1, V.2.2.1, V.2.2.2.1, V.2.2.2.2.1, V.2.2.2.2.2.1, V.2.2.2.2.2.2.1, V.2.2.2.2.2.2.2.1, V.2.2.2.2.2.2.2.2.1, V.2.2.2.2.2.2.2.2.2.1, V.2.2.2.2.2.2.2.2.2.2.1, fun _ => rfl, V.2.2.2.2.2.2.2.2.2.2.2.2⟩, Lib.hid (HW.out.trans (kz.mono (Nat.zero_le _))), Lib.hid ⟨HC.out.1.trans (Off.of_below _ _ _ kz (Nat.le_refl _)), fun _ => HC.out.2.1.below kz, fun _ _ => ⟨g, rfl, hrow⟩, fun e => absurd (HC.out.2.2.symm.trans e) (by decide)⟩⟩
            · rintro b a wy hb hd ⟨z, z48, rfl, HV, HW, HX⟩ K hK
              simp [Region.binds] at hd
              have e0 : (z 36) = Value.pointer (some ⟨P, 0, none⟩) := (HV.out.1) (by simp [hd])
              have e6 : (z 42) = .int .i64 ((m2.getD j 0 : Nat) : Int) := (HV.out.2.2.2.2.2.2.1) (by simp [hd])
              have dd12 : b 12 = true := by simp [hd]
              clear hd
              obtain ⟨X0, X1, X2, X3⟩ := HX.out
              obtain ⟨g, zz, hrow⟩ := X2 dd12 hb
              subst zz
              have HC := Lib.hid (And.intro X0 (And.intro (X1 hb) hrow))
              have HSY := Lib.hid (HVW.out wy (HW0.out.trans (HO.out.trans X0)))
              have hbw : B ≤ wy.heap.size := Nat.le_trans hvw (HW0.out.trans (HO.out.trans X0)).size
              clear X0 X1 X2 X3 hrow HX
              go_simp
              go_at_call 163
              refine (prow4 HC.out.2.1 hbw (by have := HLN.out; omega) (m2.getD j 0) (wd_row HC.out.2.2 (min 61 (m1.length - j * 61)) (length_dirW _ _) (by omega)) (by omega)).mono ?_
              rintro e wz ⟨rfl, hp, ho⟩
              try go_simp
              have V := HV.out
              exact hK _ _ ⟨fun s => if s = 49 then .tuple #[] else if s = 36 then Value.pointer (some ⟨P, 0, none⟩) else if s = 42 then .int .i64 ((m2.getD j 0 : Nat) : Int) else z s, _, rfl, Lib.hid ⟨fun _ => rfl, V.2.1, V.2.2.1, V.2.2.2.1, V.2.2.2.2.1, V.2.2.2.2.2.1, fun _ => rfl, V.2.2.2.2.2.2.2.1, V.2.2.2.2.2.2.2.2.1, V.2.2.2.2.2.2.2.2.2.1, V.2.2.2.2.2.2.2.2.2.2.1, V.2.2.2.2.2.2.2.2.2.2.2.1, fun _ => rfl⟩, Lib.hid (HW.out.trans ⟨ho.os, ho.tape, ho.output, ho.size, fun k hk => absurd hk (Nat.not_lt_zero k)⟩), Lib.hid ⟨HC.out.1.trans ho, fun e => (by cases e), fun _ e => (by cases e), fun _ => ⟨dd12, hp⟩⟩⟩
          case doneE =>
            rintro b a w9 hb ⟨z, z48, rfl, HV, HW, HX⟩
            have e0 := (HV.out.1) (hb 0)
            have e1 := (HV.out.2.1) (hb 1)
            have e2 := (HV.out.2.2.1) (hb 2)
            have e3 := (HV.out.2.2.2.1) (hb 3)
            have e4 := (HV.out.2.2.2.2.1) (hb 4)
            have e5 := (HV.out.2.2.2.2.2.1) (hb 5)
            have e6 := (HV.out.2.2.2.2.2.2.1) (hb 6)
            have e7 := (HV.out.2.2.2.2.2.2.2.1) (hb 7)
            have e8 := (HV.out.2.2.2.2.2.2.2.2.1) (hb 8)
            have e9 := (HV.out.2.2.2.2.2.2.2.2.2.1) (hb 9)
            have e10 := (HV.out.2.2.2.2.2.2.2.2.2.2.1) (hb 10)
            have e11 := (HV.out.2.2.2.2.2.2.2.2.2.2.2.1) (hb 11)
            have e13 := (HV.out.2.2.2.2.2.2.2.2.2.2.2.2) (hb 13)
            simp only [e0, e1, e2, e3, e4, e5, e6, e7, e8, e9, e10, e11, e13]
            clear HV e0 e1 e2 e3 e4 e5 e6 e7 e8 e9 e10 e11 e13
            obtain ⟨X0, _, _, X3⟩ := HX.out
            have H9 := Lib.hid (And.intro X0 (X3 (hb 13)).2)
            clear HX HW hb X0 X3
            go_wp2_with fail
            go_roundw
            case rel => exact ⟨k + 1, by omega, by go_num, Lib.hid (by rw [HNX.out, ← List.append_assoc, ← HLE.out]; exact H9.out.2), Lib.hid (HO.out.trans H9.out.1)⟩
            case measure => simp [Go.RowKit.intOf]; omega
        · have hki : ¬ (k : Int) < (k2.length : Int) := by omega
          obtain rfl : k = k2.length := by omega
          rw [List.take_length] at HP
          go_wp2_with fail
          go_end0
          refine ⟨rfl, ?_, HW0.out.trans HO.out⟩
          have := HP.out
          rw [HLL.out, List.append_assoc] at this
          exact this

end Go.Proofs.YtogchamogbendaaGreat.Bs
/- A plan is done, step by step. -/
namespace Go.Proofs.YtogchamogbendaaGreat.Bs
set_option maxRecDepth 100000
open Go.RowKit Go.Proofs.YtogchamogbendaaGreat.Oct Go.Proofs.YtogchamogbendaaGreat.Mv Go.Proofs.YtogchamogbendaaGreat.Tl Go.Proofs.YtogchamogbendaaGreat.Pk Go.Proofs.YtogchamogbendaaGreat.Pl Go.Maps Go.ChangeMaps
open Go.Proofs.YtogchamogbendaaGreat.Dsk (dT)
set_option linter.unusedVariables false
set_option linter.unusedSimpArgs false

def doStep (D : Dsk.St) : Stp → Dsk.St
  | .w p bs => D.wrote p bs
  | .f => D.flushed
def doSteps (D : Dsk.St) (l : List Stp) : Dsk.St := l.foldl doStep D
def Stp.ok (n : Nat) : Stp → Prop
  | .w p _ => p < n
  | .f => True
theorem doStep_n {D : Dsk.St} (h : Calm D) (s : Stp) : (doStep D s).n = D.n := by
  cases s with
  | w p bs => rfl
  | f => exact n_flushed h
theorem doStep_calm {D : Dsk.St} (h : Calm D) (s : Stp) : Calm (doStep D s) := by
  cases s with
  | w p bs => exact h.wrote p bs
  | f => exact h.flushed
theorem doStep_w (D : Dsk.St) (s : Stp) : (doStep D s).W.length ≤ D.W.length + 1 := by
  cases s with
  | w p bs => simp [doStep, Dsk.St.wrote]
  | f => simp [doStep, w_flushed]
theorem doSteps_all : ∀ (l : List Stp) (D : Dsk.St), Calm D → (doSteps D l).n = D.n ∧ Calm (doSteps D l) ∧ (doSteps D l).W.length ≤ D.W.length + l.length
  | [], D, h => ⟨rfl, h, Nat.le_refl _⟩
  | s :: l, D, h => by
    obtain ⟨h1, h2, h3⟩ := doSteps_all l (doStep D s) (doStep_calm h s)
    refine ⟨h1.trans (doStep_n h s), h2, Nat.le_trans h3 ?_⟩
    have := doStep_w D s
    simp only [List.length_cons]
    omega
theorem doSteps_snoc (D : Dsk.St) (l : List Stp) (s : Stp) : doSteps D (l ++ [s]) = doStep (doSteps D l) s := by simp [doSteps, List.foldl_append]
section
variable {Pr : Nat → Prop} {w : World} {B P d : Nat} {D : Dsk.St} {l : List Stp}
/-- What a step leaves. -/
def StpOut (Pr : Nat → Prop) (d : Nat) (D : Dsk.St) (w : World) (e : Ending) (w' : World) : Prop := e = .returned (.int .i64 0) ∧ DIs Pr w' d D ∧ Off dT Pr [] w w'
set_option maxHeartbeats 1000000 in
theorem wr1_any {us : List Value} (hp : RowV w P 180 (.pointer (some ⟨d, 0, none⟩) :: us)) (hd : DIs Pr w d D) (hc : Calm D) (hP : ∀ k, Pr k → k < w.heap.size) (hfew : D.W.length < 1000000) {b3 b4 b5 p g c : Nat} {bs : List UInt8}
    (r3 : RowV w b3 165 [.pointer (some ⟨P, 0, none⟩)]) (r4 : RowV w b4 3 [.int .i64 (p : Int)]) (r5 : RowV w b5 45 [.slice (some ⟨g, 0, none⟩) 128 c]) (hb : Byt w g bs) (hl : bs.length = 128) (hpn : p < D.n) :
    Calls Tryz.prog 161 #[.pointer (some ⟨b3, 0, none⟩), .pointer (some ⟨b4, 0, none⟩), .pointer (some ⟨b5, 0, none⟩)] w (StpOut Pr d (D.wrote p bs) w) := by
  have c0 := hp.cellAt (i := 0) rfl
  have c3 := r3.cellAt (i := 0) rfl
  have c4 := r4.cellAt (i := 0) rfl
  have c5 := r5.cellAt (i := 0) rfl
  have HD := Lib.hid (show DIs Pr w.drew d D from hd.below ((show Still w w.drew from ⟨rfl, rfl, rfl, rfl⟩).below _))
  have HB := Lib.hid (show Byt w.drew g bs from hb)
  have HO := Lib.hid (show Off dT Pr [] w w.drew from Off.of_below _ _ _ ((show Still w w.drew from ⟨rfl, rfl, rfl, rfl⟩).below _) (Nat.le_refl _))
  have HP := Lib.hid (show ∀ k, Pr k → k < w.drew.heap.size from hP)
  clear hp hd r3 r4 r5 hb hP
  go_enter Tryz.func161, Tryz.ntmps161
  go_upto_region 1 with (fail)
  go_still_tail 6, (by kernel_rfl)
  change wpList _ _ _ _ _ w.drew
  clear c0 c3 c4 c5
  generalize w.drew = w1 at *
  go_wp2_with fail
  refine (dwrite HD.out hc HP.out hfew p hpn (some ⟨g, 0, none⟩) c bs hl (fun w' k => (HB.out.off k (by simp) rfl).told)).mono ?_
  rintro e w2 ⟨rfl, h1, h2⟩
  have H1 := Lib.hid h1
  have H2 := Lib.hid h2
  clear h1 h2
  go_wp2_with fail
  go_ret
  exact ⟨rfl, H1.out, HO.out.trans H2.out⟩
/-- The steps of a plan, where they lie. -/
def RowSteps (w : World) (g : Nat) (vs : List Value) (n : Nat) : Prop := ∃ cur, w.heap[g]? = some (.cells cur 242 (0, 0)) ∧ ∀ i, i < n → cur[i]? = some (vs.getD i undef)
theorem RowSteps.off {w w' : World} {g n i : Nat} {vs : List Value} (h : RowSteps w g vs n) (k : Off dT Pr [] w w') (hi : i < n) : w'.cell? ⟨g, i, none⟩ = some (vs.getD i undef) := by
  obtain ⟨cur, hg, hc⟩ := h
  have e : w'.heap[g]? = some (.cells cur 242 (0, 0)) := (k.block g (lt_of_heap hg) (by simp) (.inr fun cs t fr e => by rw [hg] at e; cases e; rfl)).trans hg
  rw [cell_of_row w' g i _ _ _ e]
  exact hc i hi
set_option maxHeartbeats 2000000 in
theorem prun (hp : Pln w B P d l) (hd : DIs Pr w d D) (hc : Calm D) (hP : ∀ k, Pr k → k < w.heap.size) (hfew : D.W.length + l.length < 900000) (hok : ∀ s ∈ l, Stp.ok D.n s) :
    Calls Tryz.prog 88 #[.pointer (some ⟨P, 0, none⟩)] w (StpOut Pr d (doSteps D l) w) := by
  obtain ⟨sv, vs, hr, hBP, ho, hs⟩ := hp
  have HP0 := Lib.hid (show Pln w B P d l from ⟨sv, vs, hr, hBP, ho, hs⟩)
  have HV := Lib.hid (And.intro hr (And.intro ho hs))
  have HD := Lib.hid hd
  have HPR := Lib.hid hP
  have HOK := Lib.hid hok
  have hln : l.length ≤ 900000 := by omega
  have hlni : (l.length : Int) ≤ 900000 := by omega
  have c1 := hr.cellAt (i := 1) rfl
  obtain ⟨A, cap, hv, hwc, hm, hA⟩ : ∃ A cap, sv = .slice A l.length cap ∧ l.length ≤ cap ∧ cap ≤ maxLen ∧ (0 < l.length → ∃ g, A = some ⟨g, 0, none⟩ ∧ RowSteps w g vs l.length) := by
    rcases ho.2 with ⟨rfl, h0⟩ | ⟨g, cap, cur, rfl, _, hg, h1, h2, h3, h4⟩
    · exact ⟨none, 0, by rw [h0], by omega, by unfold maxLen; omega, fun h => by omega⟩
    · refine ⟨_, cap, rfl, h1, h2, fun _ => ⟨g, rfl, cur, hg, fun i hi => ?_⟩⟩
      rw [Nat.mul_one] at h4
      have hl := ho.1
      rw [Nat.mul_one] at hl
      rw [← h4, List.getD_eq_getElem?_getD, List.getElem?_take, if_pos hi, Array.getElem?_toList]
      have : i < cur.size := by rw [h3]; omega
      rw [Array.getElem?_eq_getElem this]
      rfl
  subst hv
  have HA := Lib.hid hA
  clear hr ho hs hd hP hok hA
  go_enter Tryz.func88, Tryz.ntmps88
  go_wp2_with fail
  clear c1
  go_loopw [11] (fun i wr => ∃ k : Nat, k ≤ l.length ∧ i = .int .i64 (k : Int) ∧ Hid (DIs Pr wr d (doSteps D (l.take k))) ∧ Hid (Off dT Pr [] w wr)) (fun i _ => l.length - (Go.RowKit.intOf i).toNat)
  case atStart => exact ⟨0, Nat.zero_le _, rfl, by rw [List.take_zero]; exact HD, Lib.hid (Off.refl _ _ _ _)⟩
  case round =>
    obtain ⟨k, hk, rfl, HDr, HO⟩ := hrel
    by_cases hlt : k < l.length
    · have hki : (k : Int) < (l.length : Int) := by omega
      have hge : (0 : Int) ≤ (k : Int) := by omega
      obtain ⟨g, rfl, hg⟩ := HA.out (by omega)
      have cv := hg.off HO.out hlt
      have HST := Lib.hid ((HV.out.2.2 k hlt).off HO.out rfl rfl rfl rfl)
      have HRW := Lib.hid (HO.out.rowV HV.out.1 (by simp) rfl)
      have HTK := Lib.hid (show doSteps D (l.take (k + 1)) = doStep (doSteps D (l.take k)) l[k] by
        rw [List.take_add_one, List.getElem?_eq_getElem hlt]
        exact doSteps_snoc _ _ _)
      obtain ⟨e1, e2, e3⟩ := doSteps_all (l.take k) D hc
      have HCN := Lib.hid (And.intro e1 (And.intro e2 e3))
      have HKO := Lib.hid (HOK.out l[k] (List.getElem_mem hlt))
      have HL := Lib.hid (show (l.take k).length ≤ l.length by rw [List.length_take]; omega)
      clear hg e1 e2 e3
      have HTL := Lib.hid (show (doSteps D (l.take k)).W.length < 1000000 by have := HCN.out.2.2; have := HL.out; omega)
      generalize l[k] = st at *
      generalize vs.getD k undef = fv at *
      have ba := (Below.refl wr.heap.size wr).alloc (Nat.le_refl _) (.cells #[fv] 242)
      have HBA := Lib.hid ba
      have HDa := Lib.hid (HDr.out.below ba)
      have HOa := Lib.hid (HO.out.trans (Off.of_below dT Pr [] ba (Nat.le_refl _)))
      have HRa := Lib.hid (HRW.out.below HRW.out.lt ba)
      have HPa := Lib.hid (show ∀ j, Pr j → j < (wr.alloc (.cells #[fv] 242)).heap.size from fun j hj => Nat.lt_of_lt_of_le (HPR.out j hj) HOa.out.size)
      have HSa := Lib.hid (HST.out.off (Off.of_below dT Pr [] ba (Nat.le_refl _)) rfl rfl rfl rfl)
      clear ba HDr HO HRW HST
      cases st with
      | f =>
        have hf : fv = .func (.func 162) #[.pointer (some ⟨d, 0, none⟩)] #[] := HSa.out
        subst hf
        go_wp2_with fail
        refine (dflush HDa.out HCN.out.2.1).mono ?_
        rintro e w2 ⟨rfl, h1, h2⟩
        have H1 := Lib.hid (show DIs Pr w2 d (doSteps D (l.take (k + 1))) from by rw [HTK.out]; exact h1)
        have H2 := Lib.hid (HOa.out.trans h2)
        clear h1 h2 cv
        go_wp2_with fail
        go_roundw
        case rel => exact ⟨k + 1, by omega, by go_num, H1, H2⟩
        case measure => simp [Go.RowKit.intOf]; omega
      | w p bs =>
        obtain ⟨b3, b4, b5, g', c, hf, r3, r4, r5, hb, hl⟩ := HSa.out
        have HRR := Lib.hid (And.intro r3 (And.intro r4 (And.intro r5 (And.intro hb hl))))
        clear r3 r4 r5 hb hl
        subst hf
        go_wp2_with fail
        refine (wr1_any HRa.out HDa.out HCN.out.2.1 HPa.out HTL.out HRR.out.1 HRR.out.2.1 HRR.out.2.2.1 HRR.out.2.2.2.1 HRR.out.2.2.2.2 (by have := HKO.out; rw [HCN.out.1]; exact this)).mono ?_
        rintro e w2 ⟨rfl, h1, h2⟩
        have H1 := Lib.hid (show DIs Pr w2 d (doSteps D (l.take (k + 1))) from by rw [HTK.out]; exact h1)
        have H2 := Lib.hid (HOa.out.trans h2)
        clear h1 h2 cv
        go_wp2_with fail
        go_roundw
        case rel => exact ⟨k + 1, by omega, by go_num, H1, H2⟩
        case measure => simp [Go.RowKit.intOf]; omega
    · have hki : ¬ (k : Int) < (l.length : Int) := by omega
      obtain rfl : k = l.length := by omega
      rw [List.take_length] at HDr
      go_wp2_with fail
      go_ret
      exact ⟨rfl, HDr.out, HO.out⟩
end
end Go.Proofs.YtogchamogbendaaGreat.Bs
/- Pages are placed: settle; a sheet that stands nowhere; a super that begins with directory pages. (Written by bin/gen_bsm.py.) -/
namespace Go.Proofs.YtogchamogbendaaGreat.Bs
set_option maxRecDepth 100000
open Go.RowKit Go.Proofs.YtogchamogbendaaGreat.Oct Go.Proofs.YtogchamogbendaaGreat.Mv Go.Proofs.YtogchamogbendaaGreat.Tl Go.Proofs.YtogchamogbendaaGreat.Pk Go.Proofs.YtogchamogbendaaGreat.Pl Go.Maps Go.ChangeMaps
open Go.Proofs.YtogchamogbendaaGreat.Dsk (dT)
open Go.Proofs.YtogchamogbendaaGreat.Su (Sup nth scells)
set_option linter.unusedVariables false
set_option linter.unusedSimpArgs false

theorem layout_zero (w : World) : (zeroValue 160).run Tryz.prog w = .ok (.agg #[.slice none 0 0, .slice none 0 0, .slice none 0 0, .slice none 0 0]) w := by kernel_rfl
/-- What settle answers, where there is room. -/
def SetOut (w : World) (p ta cb mb c : Nat) (q : Q) (l1 l2 : List Nat) (e : Ending) (w' : World) : Prop :=
  ∃ (y : Wk) (g1 d1 g3 d3 c1 c2 : Nat) (A1 A2 : Option Addr), e = .returned (.tuple #[.agg (lval g1 l1.length d1 g3 l2.length d3 A1 c1 (doneL y.f1).length A2 c2 (doneL y.f2).length).toArray, .int .i64 0]) ∧ (Pl.begin q l1 l2).Runs y ∧ PAt w' p ta cb mb c y.q ∧ (∃ sp, RowV w' g1 3 (ints y.l1 ++ sp)) ∧ (∃ sp, RowV w' g3 3 (ints y.l2 ++ sp)) ∧ ToldV w' A1 (ints (doneL y.f1)) ∧ ToldV w' A2 (ints (doneL y.f2)) ∧ (w.heap.size ≤ g1 ∧ l1.length ≤ d1 ∧ d1 ≤ maxLen) ∧ w.heap.size ≤ g3 ∧ ButL w w' [cb, mb, p]
/-- A list of numbers does not lie in a row without numbers. -/
theorem told_rows {w w' : World} {A : Option Addr} {l : List Nat} {r : Nat} {T : TypeId} {vs : List Value} (h : ToldV w A (ints l)) (hr : RowV w r T vs) (hv : ∀ v ∈ vs, ∀ z, v ≠ .int .i64 z) (k : ButL w w' [r]) : ToldV w' A (ints l) := by
  rcases h with h | ⟨b, o, ha, h⟩
  · exact .inl h
  · cases l with
    | nil => exact .inl rfl
    | cons m l =>
      have h0 := h 0 (by simp [ints])
      have hb : b < w.heap.size := World.block_lt_of_cell? w _ h0
      refine .inr ⟨b, o, ha, h.block (k.block b hb fun hm => ?_)⟩
      have : b = r := by simpa using hm
      subst this
      rw [Nat.add_zero, cell_of_row w b o _ _ _ hr] at h0
      have hm : (ints (m :: l))[0]'(by simp [ints]) = .int .i64 (m : Int) := by simp [ints]
      rw [hm] at h0
      have hin : Value.int .i64 (m : Int) ∈ vs := by
        have := Array.mem_of_getElem? h0
        simpa using this
      exact hv _ hin _ rfl
set_option maxHeartbeats 2000000 in
theorem settle_yes {w : World} {p ta cb mb c : Nat} {q : Q} (hq : PAt w p ta cb mb c q) {A1 A2 : Option Addr} {c1 c2 : Nat} {l1 l2 : List Nat} (h1 : ToldV w A1 (ints l1)) (h2 : ToldV w A2 (ints l2)) (hyes : RightS q.s (toI l1) (toI l2)) (hroom : need q.s.n ≤ q.room) :
    Calls Tryz.prog 109 #[.pointer (some ⟨ta, 0, none⟩), .pointer (some ⟨p, 0, none⟩), shv A1 A2 l1.length l2.length c1 c2] w (SetOut w p ta cb mb c q l1 l2) := by
  have hz := layout_zero
  have r0 := alloc_rowV w 65 [.slice A1 l1.length c1, .slice A2 l2.length c2]
  have b0 := (Below.refl w.heap.size w).alloc (Nat.le_refl _) (.cells #[.slice A1 l1.length c1, .slice A2 l2.length c2] 65)
  have r1 := alloc_rowV (w.alloc (.cells #[.slice A1 l1.length c1, .slice A2 l2.length c2] 65)) 160 [.slice none 0 0, .slice none 0 0, .slice none 0 0, .slice none 0 0]
  have b1 := (Below.refl (w.alloc (.cells #[.slice A1 l1.length c1, .slice A2 l2.length c2] 65)).heap.size _).alloc (Nat.le_refl _) (.cells #[.slice none 0 0, .slice none 0 0, .slice none 0 0, .slice none 0 0] 160)
  have s0 : (w.alloc (.cells #[.slice A1 l1.length c1, .slice A2 l2.length c2] 65)).heap.size = w.heap.size + 1 := by simp
  unfold shv
  go_enter Tryz.func109, Tryz.ntmps109
  go_upto_region 1 with (fail)
  rw [s0] at r1 b1
  obtain ⟨x0, hx0⟩ : ∃ x, x = w.heap.size := ⟨_, rfl⟩
  have HB := Lib.hid (show Below w.heap.size w ((w.alloc (.cells #[.slice A1 l1.length c1, .slice A2 l2.length c2] 65)).alloc (.cells #[.slice none 0 0, .slice none 0 0, .slice none 0 0, .slice none 0 0] 160)) from b0.trans (b1.mono (by omega)))
  have R0 := Lib.hid (r0.below (by omega) b1)
  have R1 := Lib.hid r1
  rw [← hx0] at R0 R1 ⊢
  obtain ⟨x1, hx1⟩ : ∃ x, x = x0 + 1 := ⟨_, rfl⟩
  rw [← hx1] at R1 ⊢
  have HX := Lib.hid (And.intro hx0 hx1)
  clear r0 r1 b0 b1 s0 hz
  simp only [List.toArray] at *
  generalize (w.alloc (.cells #[.slice A1 l1.length c1, .slice A2 l2.length c2] 65)).alloc (.cells #[.slice none 0 0, .slice none 0 0, .slice none 0 0, .slice none 0 0] 160) = w1 at *
  have HLT := Lib.hid (And.intro hq.row.lt (And.intro hq.tally.row.lt (And.intro hq.tally.cb_lt hq.tally.mp.lt)))
  have HQ := Lib.hid (hq.kept HB.out)
  have HT := Lib.hid (And.intro (h1.below HB.out) (h2.below HB.out))
  have q0 := R0.out.cellAt (i := 0) rfl
  have q1 := R0.out.cellAt (i := 1) rfl
  clear hx0 hx1 hq h1 h2
  go_wp2_with fail
  refine (place_yes HQ.out HT.out.1 HT.out.2 hyes hroom).mono ?_
  rintro e w2 ⟨y, g1, d1, g3, d3, v1, v2, rfl, hruns, hp, hr1, hr3, ⟨B1, e1, rfl, t1⟩, ⟨B2, e2, rfl, t2⟩, hlo, hlo3, hb⟩
  have fx0 := PAt.off HQ.out R0.out (by decide) (by decide) (by decide)
  have fx1 := PAt.off HQ.out R1.out (by decide) (by decide) (by decide)
  have R0' := Lib.hid (R0.out.block (hb.block x0 R0.out.lt (by simp; exact ⟨fx0.2.2.1, fx0.2.2.2, fx0.1⟩)))
  have R1' := Lib.hid (R1.out.block (hb.block x1 R1.out.lt (by simp; exact ⟨fx1.2.2.1, fx1.2.2.2, fx1.1⟩)))
  have HP2 := Lib.hid hp
  have HRR := Lib.hid (And.intro hruns (And.intro hr1 (And.intro hr3 (And.intro t1 (And.intro t2 (And.intro hlo (And.intro hlo3 hb)))))))
  have q0 := R0'.out.cellAt (i := 0) rfl
  have q1 := R0'.out.cellAt (i := 1) rfl
  have f0 := R0'.out.free 0
  have f1 := R0'.out.free 1
  have S0 := Lib.hid ((R0'.out.set 0 (.slice (some ⟨g1, 0, none⟩) l1.length d1)).set 1 (.slice (some ⟨g3, 0, none⟩) l2.length d3))
  have n01 : x1 ≠ x0 := by have := HX.out.2; omega
  have S1 := Lib.hid ((R1'.out.other (q := x0) (i := 0) (v := .slice (some ⟨g1, 0, none⟩) l1.length d1) n01).other (q := x0) (i := 1) (v := .slice (some ⟨g3, 0, none⟩) l2.length d3) n01)
  have HU := Lib.hid (((ButL.set w2 x0 0 (.slice (some ⟨g1, 0, none⟩) l1.length d1)).trans (ButL.set _ x0 1 (.slice (some ⟨g3, 0, none⟩) l2.length d3))))
  clear hruns hp hr1 hr3 t1 t2 hlo hlo3 hb fx0 fx1 R0 R1 HQ HT n01
  go_upto_region 2 with (fail)
  generalize (w2.setCell ⟨x0, 0, none⟩ (.slice (some ⟨g1, 0, none⟩) l1.length d1)).setCell ⟨x0, 1, none⟩ (.slice (some ⟨g3, 0, none⟩) l2.length d3) = w3 at *
  clear q0 q1 f0 f1
  have q0 := S0.out.cellAt (i := 0) rfl
  have q1 := S0.out.cellAt (i := 1) rfl
  have p0 := S1.out.cellAt (i := 0) rfl
  have p1 := S1.out.cellAt (i := 1) rfl
  have p2 := S1.out.cellAt (i := 2) rfl
  have p3 := S1.out.cellAt (i := 3) rfl
  have f0 := S1.out.free 0
  have f1 := S1.out.free 1
  have f2 := S1.out.free 2
  have f3 := S1.out.free 3
  go_wp2_with fail
  have HU4 := Lib.hid ((((ButL.set w3 x1 0 (.slice (some ⟨g1, 0, none⟩) l1.length d1)).trans (ButL.set _ x1 1 (.slice (some ⟨g3, 0, none⟩) l2.length d3))).trans (ButL.set _ x1 2 (.slice B1 (doneL y.f1).length e1))).trans (ButL.set _ x1 3 (.slice B2 (doneL y.f2).length e2)))
  have S4 := Lib.hid ((((S1.out.set 0 (.slice (some ⟨g1, 0, none⟩) l1.length d1)).set 1 (.slice (some ⟨g3, 0, none⟩) l2.length d3)).set 2 (.slice B1 (doneL y.f1).length e1)).set 3 (.slice B2 (doneL y.f2).length e2))
  generalize (((w3.setCell ⟨x1, 0, none⟩ (.slice (some ⟨g1, 0, none⟩) l1.length d1)).setCell ⟨x1, 1, none⟩ (.slice (some ⟨g3, 0, none⟩) l2.length d3)).setCell ⟨x1, 2, none⟩ (.slice B1 (doneL y.f1).length e1)).setCell ⟨x1, 3, none⟩ (.slice B2 (doneL y.f2).length e2) = w4 at *
  clear q0 q1 p0 p1 p2 p3 f0 f1 f2 f3
  have q0 := S4.out.cellAt (i := 0) rfl
  have q1 := S4.out.cellAt (i := 1) rfl
  have q2 := S4.out.cellAt (i := 2) rfl
  have q3 := S4.out.cellAt (i := 3) rfl
  refine bodyPost_ret (v := .tuple #[.agg (lval g1 l1.length d1 g3 l2.length d3 B1 e1 (doneL y.f1).length B2 e2 (doneL y.f2).length).toArray, .int .i64 0]) ?_ rfl ?_
  · rw [results_cell_tmp rfl]
    unfold lval
    go_simp
  · obtain ⟨hruns, ⟨sp1, hr1⟩, ⟨sp3, hr3⟩, t1, t2, hlo, hlo3, hb⟩ := HRR.out
    obtain ⟨l0, l1', l2', l3'⟩ := HLT.out
    have hx := HX.out
    have hs1 : w.heap.size ≤ w1.heap.size := HB.out.size
    have far : ∀ k, k < w.heap.size → w4.heap[k]? = w2.heap[k]? := fun k hk => by
      have z1 : k < w2.heap.size := Nat.lt_of_lt_of_le hk (Nat.le_trans hs1 hb.size)
      have z2 : k < w3.heap.size := Nat.lt_of_lt_of_le z1 HU.out.size
      exact (HU4.out.block k z2 (by simp; omega)).trans (HU.out.block k z1 (by simp; omega))
    have row : ∀ {g : Nat} {vs : List Value}, RowV w2 g 3 vs → RowV w4 g 3 vs := fun {g vs} hr => by
      have n0 : g ≠ x0 := row_ne hr R0'.out (by decide)
      have h3 : RowV w3 g 3 vs := hr.block (HU.out.block g hr.lt (by simpa using n0))
      have n1 : g ≠ x1 := row_ne h3 S1.out (by decide)
      exact h3.block (HU4.out.block g h3.lt (by simpa using n1))
    refine ⟨y, g1, d1, g3, d3, e1, e2, B1, B2, rfl, hruns, HP2.out.blocks (far _ l0) (far _ l1') (far _ l2') (far _ l3'), ⟨sp1, row hr1⟩, ⟨sp3, row hr3⟩, told_rows (told_rows t1 R0'.out (by simp) HU.out) S1.out (by simp) HU4.out, told_rows (told_rows t2 R0'.out (by simp) HU.out) S1.out (by simp) HU4.out, ⟨Nat.le_trans hs1 hlo.1, hlo.2⟩, Nat.le_trans hs1 hlo3, ?_⟩
    have HUU : ButL w2 w4 [x0, x1] := (HU.out.mono (M := [x0, x1]) (by simp)).trans (HU4.out.mono (M := [x0, x1]) (by simp))
    refine ((ButL.of_below [cb, mb, p] HB.out (Nat.le_refl _)).trans hb).join HUU ?_
    intro z hz
    simp only [List.mem_cons, List.not_mem_nil, or_false] at hz
    right
    omega

set_option maxHeartbeats 2000000 in
theorem nowhere_any (n : Nat) (hn : n ≤ 4096) (w : World) :
    Calls Tryz.prog 110 #[.int .i64 (n : Int)] w fun e w' => ∃ g1 g3, e = .returned (.agg #[.slice (some ⟨g1, 0, none⟩) (pg n) (pg n), .slice (some ⟨g3, 0, none⟩) (pg (pg n)) (pg (pg n))]) ∧ RowV w' g1 3 (ints (zeros (pg n))) ∧ RowV w' g3 3 (ints (zeros (pg (pg n)))) ∧ w.heap.size ≤ g1 ∧ w.heap.size ≤ g3 ∧ Below w.heap.size w w' := by
  have hp : pg n ≤ 68 := pg_le hn
  have hpp : pg (pg n) ≤ 68 := pg_le (by omega)
  have hz := sheet_zero
  have B1 := (Below.refl w.heap.size w).alloc (Nat.le_refl _) (.cells #[.slice none 0 0, .slice none 0 0] 65)
  have HR := Lib.hid (alloc_rowV w 65 [.slice none 0 0, .slice none 0 0])
  have HB := Lib.hid B1
  clear B1
  go_enter Tryz.func110, Tryz.ntmps110
  go_wp2_with fail
  refine (pages_eq n (by omega) _).mono ?_
  rintro e w' ⟨rfl, rfl⟩
  generalize w.alloc (.cells #[.slice none 0 0, .slice none 0 0] 65) = w1 at *
  obtain ⟨r, hr⟩ : ∃ r, r = w.heap.size := ⟨_, rfl⟩
  rw [← hr] at HR ⊢
  have HRR := Lib.hid hr
  clear hr
  go_upto_region 2 with (fail)

  refine Inv2.wp_region_inv (fun b a wy => ∃ (z : Nat → Value) (z7 : Value) (z10 : Value) (z11 : Value), a = ⟨#[Value.int IntKind.i64 ↑n, undef, Value.pointer (some ⟨r, 0, none⟩), Value.int IntKind.i64 ↑(pg n), Value.int IntKind.i64 ↑n, Value.int IntKind.i64 ↑(pg n), (z 6), z7, (z 8), (z 9), z10, z11], []⟩ ∧ Hid ((b 0 = true → (z 6) = Value.int IntKind.i64 ↑(pg n)) ∧ (b 2 = true → (z 8) = Value.int IntKind.i64 ↑(pg n)) ∧ (b 3 = true → (z 9) = .int .i64 (pg (pg n) : Int))) ∧ Hid (Below w.heap.size w wy) ∧ Hid (∃ g1 g3, (b 1 = true → z7 = .slice (some ⟨g1, 0, none⟩) (pg n) (pg n) ∧ w.heap.size ≤ g1 ∧ RowV wy g1 3 (ints (zeros (pg n)))) ∧ (b 4 = true → z10 = .slice (some ⟨g3, 0, none⟩) (pg (pg n)) (pg (pg n)) ∧ w.heap.size ≤ g3 ∧ RowV wy g3 3 (ints (zeros (pg (pg n))))) ∧ (b 5 = true → z11 = .agg #[.slice (some ⟨g1, 0, none⟩) (pg n) (pg n), .slice (some ⟨g3, 0, none⟩) (pg (pg n)) (pg (pg n))] ∧ b 1 = true ∧ b 4 = true) ∧ (b 6 = false → RowV wy r 65 [.slice none 0 0, .slice none 0 0]) ∧ (b 6 = true → b 5 = true ∧ RowV wy r 65 [.slice (some ⟨g1, 0, none⟩) (pg n) (pg n), .slice (some ⟨g3, 0, none⟩) (pg (pg n)) (pg (pg n))]))) (by kernel_rfl) (by kernel_rfl) ?startN ?stepsN ?doneN
  case startN =>
    intro b hb
    refine ⟨fun s => undef, undef, undef, undef, rfl, Lib.hid ⟨?_, ?_, ?_⟩, Lib.hid (HB.out.trans <| (show Still w1 w1.drew from ⟨rfl, rfl, rfl, rfl⟩).below _), Lib.hid (⟨0, 0, (fun e => by rw [hb _ (by decide)] at e; cases e), (fun e => by rw [hb _ (by decide)] at e; cases e), (fun e => by rw [hb _ (by decide)] at e; cases e), fun _ => HR.out, (fun e => by rw [hb _ (by decide)] at e; cases e)⟩)⟩
    all_goals (intro e; first | rfl | (rw [hb _ (by decide)] at e; cases e))
  case stepsN =>
    refine ⟨?_, ?_, ?_, ?_, ?_, ?_, ?_, trivial⟩
    · rintro b a wy hb hd ⟨z, z7, z10, z11, rfl, HV, HW, HX⟩ K hK
      clear hd
      go_simp
      have V := HV.out
      exact hK _ _ ⟨fun s => if s = 6 then Value.int IntKind.i64 ↑(pg n) else z s, _, _, _, rfl, Lib.hid ⟨fun _ => rfl, V.2.1, V.2.2⟩, HW, HX⟩
    · rintro b a wy hb hd ⟨z, z7, z10, z11, rfl, HV, HW, HX⟩ K hK
      simp [Region.binds] at hd
      have e0 : (z 6) = Value.int IntKind.i64 ↑(pg n) := (HV.out.1) (by simp [hd])
      clear hd
      obtain ⟨g1, g3, x1, x2, x3, x4, x5⟩ := HX.out
      have hmk := make_i64 wy (pg n) (by omega)
      rw [kv_ints] at hmk
      go_simp
      have B2 := (Below.refl wy.heap.size wy).alloc (Nat.le_refl _) (.cells (ints (List.replicate (pg n) 0)).toArray 3)
      have R2 := alloc_rowV wy 3 (ints (List.replicate (pg n) 0))
      have V := HV.out
      exact hK _ _ ⟨fun s => if s = 6 then Value.int IntKind.i64 ↑(pg n) else z s, _, _, _, rfl, Lib.hid ⟨fun _ => rfl, V.2.1, V.2.2⟩, Lib.hid (HW.out.trans (B2.mono HW.out.size)), Lib.hid ⟨wy.heap.size, g3, fun _ => ⟨rfl, HW.out.size, R2⟩, fun e => ⟨(x2 e).1, (x2 e).2.1, (x2 e).2.2.below (x2 e).2.2.lt B2⟩, fun e => absurd (x3 e).2.1 (by rw [hb]; decide), fun e => (x4 e).below (x4 e).lt B2, fun e => absurd (x3 (x5 e).1).2.1 (by rw [hb]; decide)⟩⟩
    · rintro b a wy hb hd ⟨z, z7, z10, z11, rfl, HV, HW, HX⟩ K hK
      clear hd
      go_simp
      have V := HV.out
      exact hK _ _ ⟨fun s => if s = 8 then Value.int IntKind.i64 ↑(pg n) else z s, _, _, _, rfl, Lib.hid ⟨V.1, fun _ => rfl, V.2.2⟩, HW, HX⟩
    · rintro b a wy hb hd ⟨z, z7, z10, z11, rfl, HV, HW, HX⟩ K hK
      simp [Region.binds] at hd
      have e2 : (z 8) = Value.int IntKind.i64 ↑(pg n) := (HV.out.2.1) (by simp [hd])
      clear hd
      go_simp
      go_at_call 98
      refine (pages_eq (pg n) (by omega) _).mono ?_
      rintro e wz ⟨rfl, rfl⟩
      try go_simp
      have V := HV.out
      exact hK _ _ ⟨fun s => if s = 9 then .int .i64 (pg (pg n) : Int) else if s = 8 then Value.int IntKind.i64 ↑(pg n) else z s, _, _, _, rfl, Lib.hid ⟨V.1, fun _ => rfl, fun _ => rfl⟩, HW, HX⟩
    · rintro b a wy hb hd ⟨z, z7, z10, z11, rfl, HV, HW, HX⟩ K hK
      simp [Region.binds] at hd
      have e3 : (z 9) = .int .i64 (pg (pg n) : Int) := (HV.out.2.2) (by simp [hd])
      clear hd
      obtain ⟨g1, g3, x1, x2, x3, x4, x5⟩ := HX.out
      have hmk := make_i64 wy (pg (pg n)) (by omega)
      rw [kv_ints] at hmk
      go_simp
      have B2 := (Below.refl wy.heap.size wy).alloc (Nat.le_refl _) (.cells (ints (List.replicate (pg (pg n)) 0)).toArray 3)
      have R2 := alloc_rowV wy 3 (ints (List.replicate (pg (pg n)) 0))
      have V := HV.out
      exact hK _ _ ⟨fun s => if s = 9 then .int .i64 (pg (pg n) : Int) else z s, _, _, _, rfl, Lib.hid ⟨V.1, V.2.1, fun _ => rfl⟩, Lib.hid (HW.out.trans (B2.mono HW.out.size)), Lib.hid ⟨g1, wy.heap.size, fun e => ⟨(x1 e).1, (x1 e).2.1, (x1 e).2.2.below (x1 e).2.2.lt B2⟩, fun _ => ⟨rfl, HW.out.size, R2⟩, fun e => absurd (x3 e).2.2 (by rw [hb]; decide), fun e => (x4 e).below (x4 e).lt B2, fun e => absurd (x3 (x5 e).1).2.2 (by rw [hb]; decide)⟩⟩
    · rintro b a wy hb hd ⟨z, z7, z10, z11, rfl, HV, HW, HX⟩ K hK
      simp [Region.binds] at hd
      have dd1 : b 1 = true := by simp [hd]
      have dd4 : b 4 = true := by simp [hd]
      clear hd
      obtain ⟨g1, g3, x1, x2, x3, x4, x5⟩ := HX.out
      obtain ⟨zz, y1, y2⟩ := x1 dd1
      subst zz
      obtain ⟨zz, y3, y4⟩ := x2 dd4
      subst zz
      go_simp
      have V := HV.out
      exact hK _ _ ⟨fun s => z s, _, _, _, rfl, Lib.hid ⟨V.1, V.2.1, V.2.2⟩, HW, Lib.hid ⟨g1, g3, fun _ => ⟨rfl, y1, y2⟩, fun _ => ⟨rfl, y3, y4⟩, fun _ => ⟨rfl, dd1, dd4⟩, x4, fun e => absurd (x5 e).1 (by rw [hb]; decide)⟩⟩
    · rintro b a wy hb hd ⟨z, z7, z10, z11, rfl, HV, HW, HX⟩ K hK
      simp [Region.binds] at hd
      have dd5 : b 5 = true := by simp [hd]
      clear hd
      obtain ⟨g1, g3, x1, x2, x3, x4, x5⟩ := HX.out
      obtain ⟨zz, d1, d4⟩ := x3 dd5
      subst zz
      obtain ⟨zz, y1, y2⟩ := x1 d1
      subst zz
      obtain ⟨zz, y3, y4⟩ := x2 d4
      subst zz
      have hr := x4 hb
      have q0 := hr.cellAt (i := 0) rfl
      have q1 := hr.cellAt (i := 1) rfl
      have f0 := hr.free 0
      have f1 := hr.free 1
      have HA3 := Lib.hid ((hr.set 0 (.slice (some ⟨g1, 0, none⟩) (pg n) (pg n))).set 1 (.slice (some ⟨g3, 0, none⟩) (pg (pg n)) (pg (pg n))))
      have HU := Lib.hid ((ButL.set wy r 0 (.slice (some ⟨g1, 0, none⟩) (pg n) (pg n))).trans (ButL.set _ r 1 (.slice (some ⟨g3, 0, none⟩) (pg (pg n)) (pg (pg n)))))
      have HY2 := Lib.hid (y2.block (HU.out.block _ y2.lt (by simp; exact row_ne y2 hr (by decide))))
      have HY4 := Lib.hid (y4.block (HU.out.block _ y4.lt (by simp; exact row_ne y4 hr (by decide))))
      have HD := Lib.hid (And.intro d1 (And.intro d4 dd5))
      have HYY := Lib.hid (And.intro y1 y3)
      have hrl : w.heap.size ≤ r := by rw [HRR.out]; exact Nat.le_refl _
      clear x1 x2 x3 x4 x5 y1 y2 y3 y4 hr d1 d4 dd5 HX
      go_simp
      have HW6 := Lib.hid (HW.out.trans (HU.out.below (B := w.heap.size) (by simp; exact hrl) HW.out.size))
      have V := HV.out
      exact hK _ _ ⟨fun s => z s, _, _, _, rfl, Lib.hid ⟨V.1, V.2.1, V.2.2⟩, HW6, Lib.hid ⟨g1, g3, fun _ => ⟨rfl, HYY.out.1, HY2.out⟩, fun _ => ⟨rfl, HYY.out.2, HY4.out⟩, fun _ => ⟨rfl, HD.out.1, HD.out.2.1⟩, fun e => (by cases e), fun _ => ⟨HD.out.2.2, HA3.out⟩⟩⟩
  case doneN =>
    rintro b a wy hb ⟨z, z7, z10, z11, rfl, HV, HW, HX⟩
    have e0 := (HV.out.1) (hb 0)
    have e2 := (HV.out.2.1) (hb 2)
    have e3 := (HV.out.2.2) (hb 3)
    simp only [e0, e2, e3]
    clear HV e0 e2 e3
    obtain ⟨g1, g3, x1, x2, x3, x4, x5⟩ := HX.out
    obtain ⟨zz, y1, y2⟩ := x1 (hb 1)
    subst zz
    obtain ⟨zz, y3, y4⟩ := x2 (hb 4)
    subst zz
    obtain ⟨zz, _, _⟩ := x3 (hb 5)
    subst zz
    have hr := (x5 (hb 6)).2
    have q0 := hr.cellAt (i := 0) rfl
    have q1 := hr.cellAt (i := 1) rfl
    have HY := Lib.hid (And.intro y1 (And.intro y2 (And.intro y3 y4)))
    clear x1 x2 x3 x4 x5 y1 y2 y3 y4 hr hb HX
    go_wp2_with fail
    refine bodyPost_ret (v := .agg #[.slice (some ⟨g1, 0, none⟩) (pg n) (pg n), .slice (some ⟨g3, 0, none⟩) (pg (pg n)) (pg (pg n))]) ?_ rfl ?_
    · rw [results_cell_one rfl]
      go_simp
    · exact ⟨g1, g3, rfl, HY.out.2.1, HY.out.2.2.2, HY.out.1, HY.out.2.2.1, HW.out⟩

end Go.Proofs.YtogchamogbendaaGreat.Bs
/- A super that begins with directory pages; Format. (Written by bin/gen_bsn.py.) -/
namespace Go.Proofs.YtogchamogbendaaGreat.Bs
set_option maxRecDepth 100000
open Go.RowKit Go.Proofs.YtogchamogbendaaGreat.Oct Go.Proofs.YtogchamogbendaaGreat.Mv Go.Proofs.YtogchamogbendaaGreat.Tl Go.Proofs.YtogchamogbendaaGreat.Pk Go.Proofs.YtogchamogbendaaGreat.Pl Go.Maps Go.ChangeMaps
open Go.Proofs.YtogchamogbendaaGreat.Dsk (dT)
open Go.Proofs.YtogchamogbendaaGreat.Su (Sup nth scells scell)
set_option linter.unusedVariables false
set_option linter.unusedSimpArgs false

theorem wp_copy_run {P : Program} {w : World} {o : Oper} {a : Act} {K : Act → World → Prop} {Q : Exit → Act → World → Prop} (s x : Operand) (t u : TypeId)
    (ho : o.op = .call { callee := .builtin .copy, args := #[s, x], argTypes := #[t, u] }) (v1 v2 : Value) (hs : a.eval s = v1) (hx : a.eval x = v2) (v' : Value) (w' : World)
    (hrun : (Builtin.copy_ #[t, u] o.type #[v1, v2]).run P w = .ok v' w') (h : K (a.put o.dst v') w') : o.wp P a w K Q := by
  unfold Oper.wp
  simp [execOp, ho, resolve, invoke, builtin, hs, hx, hrun, Result.andThen]
  exact h
theorem kv_one (k : IntKind) (l : List Nat) : ∀ v ∈ kv k l, v.oneCell' = true := by
  intro v hv
  obtain ⟨n, _, rfl⟩ := List.mem_map.1 hv
  rfl
theorem butl_setRow (w : World) (g : Nat) (cs : Array Value) : ButL w (w.setRow g cs) [g] := ⟨rfl, rfl, rfl, by simp, fun k hk hn => setRow_other w g k cs (by simpa using hn)⟩
/-- A super with these roots. -/
def leadS (s : Sup) (l : List Nat) : Sup := s.take 2 ++ l ++ s.drop (2 + l.length)
theorem length_leadS {s : Sup} (hs : s.length = 18) {l : List Nat} (hl : l.length ≤ 2) : (leadS s l).length = 18 := by unfold leadS; simp; omega
theorem leadS_low {s : Sup} (hs : s.length = 18) {l : List Nat} (j : Nat) (hj : j < 2) : nth (leadS s l) j = nth s j := by
  unfold leadS nth
  rw [List.append_assoc, List.getD_eq_getElem?_getD, List.getD_eq_getElem?_getD, List.getElem?_append_left (by simp; omega), List.getElem?_take_of_lt hj]
theorem leadS_mid {s : Sup} (hs : s.length = 18) {l : List Nat} (j : Nat) (hj : j < l.length) : nth (leadS s l) (2 + j) = l[j] := by
  unfold leadS nth
  rw [List.append_assoc, List.getD_eq_getElem?_getD, List.getElem?_append_right (by simp; omega), List.length_take, hs, show 2 + j - min 2 18 = j by omega, List.getElem?_append_left hj, List.getElem?_eq_getElem hj]
  rfl
theorem leadS_high {s : Sup} (hs : s.length = 18) {l : List Nat} (hl : l.length ≤ 2) (j : Nat) (hj : 2 + l.length ≤ j) : nth (leadS s l) j = nth s j := by
  unfold leadS nth
  rw [List.getD_eq_getElem?_getD, List.getD_eq_getElem?_getD, List.getElem?_append_right (by simp; omega), List.getElem?_drop]
  congr 2
  simp
  omega
theorem scells_lead {s : Sup} (hs : s.length = 18) {l : List Nat} (hl : l.length ≤ 2) : (scells s).take 2 ++ kv .u32 l ++ (scells s).drop (2 + (kv .u32 l).length) = scells (leadS s l) := by
  match s, hs with
  | [a0, a1, a2, a3, a4, a5, a6, a7, a8, a9, a10, a11, a12, a13, a14, a15, a16, a17], _ =>
    match l, hl with
    | [], _ => rfl
    | [x], _ => rfl
    | [x, y], _ => rfl
    | x :: y :: z :: l, hl => simp at hl
set_option maxHeartbeats 2000000 in
theorem lead_any {w : World} {r : Nat} {s : Sup} (hr : RowV w r 69 (scells s)) (hs : s.length = 18) {A : Option Addr} {c : Nat} {l : List Nat} (h : ToldV w A (ints l)) (hl : l.length ≤ 2) (hb32 : ∀ x ∈ l, x < 4294967296) :
    Calls Tryz.prog 86 #[.pointer (some ⟨r, 0, none⟩), .slice A l.length c] w fun e w' => e = .returned (.tuple #[]) ∧ RowV w' r 69 (scells (leadS s l)) ∧ ButL w w' [r] := by
  have hsz : (Tryz.prog.info? 66).map (·.size) = some 1 := by kernel_rfl
  have HR := Lib.hid hr
  have HT := Lib.hid h
  have q0 := hr.lt
  have HL := Lib.hid q0
  clear hr h q0
  go_enter Tryz.func86, Tryz.ntmps86
  go_upto_region 0 with (fail)

  refine Inv2.wp_region_inv (fun b a wy => ∃ (z : Nat → Value) (z9 : Value), a = ⟨#[Value.pointer (some ⟨r, 0, none⟩), Value.slice A l.length c, undef, undef, (z 4), (z 5), (z 6), (z 7), (z 8), z9, (z 10)], []⟩ ∧ Hid ((b 0 = true → (z 4) = Value.pointer (some ⟨r, 0, none⟩)) ∧ (b 1 = true → (z 5) = .pointer (some ⟨r, 0, none⟩)) ∧ (b 2 = true → (z 6) = .pointer (some ⟨r, 2, none⟩)) ∧ (b 3 = true → (z 7) = .slice (some ⟨r, 2, none⟩) 2 8) ∧ (b 4 = true → (z 8) = Value.slice A l.length c) ∧ (b 6 = true → (z 10) = .int .i64 (l.length : Int))) ∧ Hid (Below 0 w wy) ∧ Hid (ButL w wy [r] ∧ (b 6 = false → RowV wy r 69 (scells s)) ∧ (b 5 = true → ∃ g, z9 = .slice (some ⟨g, 0, none⟩) l.length l.length ∧ RowV wy g 66 (kv .u32 l)) ∧ (b 6 = true → b 5 = true ∧ RowV wy r 69 (scells (leadS s l))))) (by kernel_rfl) (by kernel_rfl) ?startD ?stepsD ?doneD
  case startD =>
    intro b hb
    refine ⟨fun s => undef, undef, rfl, Lib.hid ⟨?_, ?_, ?_, ?_, ?_, ?_⟩, Lib.hid ((show Still w w.drew from ⟨rfl, rfl, rfl, rfl⟩).below _), Lib.hid (⟨ButL.still _ ⟨rfl, rfl, rfl, rfl⟩, fun _ => HR.out, (fun e => by rw [hb _ (by decide)] at e; cases e), (fun e => by rw [hb _ (by decide)] at e; cases e)⟩)⟩
    all_goals (intro e; first | rfl | (rw [hb _ (by decide)] at e; cases e))
  case stepsD =>
    refine ⟨?_, ?_, ?_, ?_, ?_, ?_, ?_, trivial⟩
    · rintro b a wy hb hd ⟨z, z9, rfl, HV, HW, HX⟩ K hK
      clear hd
      go_simp
      have V := HV.out
      exact hK _ _ ⟨fun s => if s = 4 then Value.pointer (some ⟨r, 0, none⟩) else z s, _, rfl, Lib.hid ⟨fun _ => rfl, V.2.1, V.2.2.1, V.2.2.2.1, V.2.2.2.2.1, V.2.2.2.2.2⟩, HW, HX⟩
    · rintro b a wy hb hd ⟨z, z9, rfl, HV, HW, HX⟩ K hK
      simp [Region.binds] at hd
      have e0 : (z 4) = Value.pointer (some ⟨r, 0, none⟩) := (HV.out.1) (by simp [hd])
      clear hd
      go_simp
      have V := HV.out
      exact hK _ _ ⟨fun s => if s = 5 then .pointer (some ⟨r, 0, none⟩) else if s = 4 then Value.pointer (some ⟨r, 0, none⟩) else z s, _, rfl, Lib.hid ⟨fun _ => rfl, fun _ => rfl, V.2.2.1, V.2.2.2.1, V.2.2.2.2.1, V.2.2.2.2.2⟩, HW, HX⟩
    · rintro b a wy hb hd ⟨z, z9, rfl, HV, HW, HX⟩ K hK
      simp [Region.binds] at hd
      have e1 : (z 5) = .pointer (some ⟨r, 0, none⟩) := (HV.out.2.1) (by simp [hd])
      clear hd
      go_simp
      have V := HV.out
      exact hK _ _ ⟨fun s => if s = 6 then .pointer (some ⟨r, 2, none⟩) else if s = 5 then .pointer (some ⟨r, 0, none⟩) else z s, _, rfl, Lib.hid ⟨V.1, fun _ => rfl, fun _ => rfl, V.2.2.2.1, V.2.2.2.2.1, V.2.2.2.2.2⟩, HW, HX⟩
    · rintro b a wy hb hd ⟨z, z9, rfl, HV, HW, HX⟩ K hK
      simp [Region.binds] at hd
      have e2 : (z 6) = .pointer (some ⟨r, 2, none⟩) := (HV.out.2.2.1) (by simp [hd])
      clear hd
      go_simp
      have V := HV.out
      exact hK _ _ ⟨fun s => if s = 7 then .slice (some ⟨r, 2, none⟩) 2 8 else if s = 6 then .pointer (some ⟨r, 2, none⟩) else z s, _, rfl, Lib.hid ⟨V.1, V.2.1, fun _ => rfl, fun _ => rfl, V.2.2.2.2.1, V.2.2.2.2.2⟩, HW, HX⟩
    · rintro b a wy hb hd ⟨z, z9, rfl, HV, HW, HX⟩ K hK
      clear hd
      go_simp
      have V := HV.out
      exact hK _ _ ⟨fun s => if s = 8 then Value.slice A l.length c else z s, _, rfl, Lib.hid ⟨V.1, V.2.1, V.2.2.1, V.2.2.2.1, fun _ => rfl, V.2.2.2.2.2⟩, HW, HX⟩
    · rintro b a wy hb hd ⟨z, z9, rfl, HV, HW, HX⟩ K hK
      simp [Region.binds] at hd
      have e4 : (z 8) = Value.slice A l.length c := (HV.out.2.2.2.2.1) (by simp [hd])
      clear hd
      obtain ⟨x1, x2, x3, x4⟩ := HX.out
      have b6 : b 6 = false := by
        rcases Bool.eq_false_or_eq_true (b 6) with e | e
        · exact absurd (hb.symm.trans (x4 e).1) (by decide)
        · exact e
      have HTy := Lib.hid (told_rows (vs := scells s) HT.out HR.out (by intro v hv z; rw [Su.scells, List.mem_map] at hv; obtain ⟨j, _, rfl⟩ := hv; unfold scell; split <;> simp) x1)
      go_simp
      go_at_call 146
      refine (as_uint32_int (l := l) (c := c) (by rw [kv_ints]; exact HTy.out) (by omega) hb32).mono ?_
      rintro e wz ⟨g, rfl, hg, hlo, kz⟩
      try go_simp
      have V := HV.out
      exact hK _ _ ⟨fun s => if s = 8 then Value.slice A l.length c else z s, _, rfl, Lib.hid ⟨V.1, V.2.1, V.2.2.1, V.2.2.2.1, fun _ => rfl, V.2.2.2.2.2⟩, Lib.hid (HW.out.trans (kz.mono (Nat.zero_le _))), Lib.hid ⟨x1.trans (ButL.of_below _ kz (Nat.le_refl _)), fun e => (x2 e).below (x2 e).lt kz, fun _ => ⟨g, rfl, hg⟩, fun e => absurd (b6.symm.trans e) (by decide)⟩⟩
    · rintro b a wy hb hd ⟨z, z9, rfl, HV, HW, HX⟩ K hK
      simp [Region.binds] at hd
      have e3 : (z 7) = .slice (some ⟨r, 2, none⟩) 2 8 := (HV.out.2.2.2.1) (by simp [hd])
      have dd5 : b 5 = true := by simp [hd]
      clear hd
      obtain ⟨x1, x2, x3, x4⟩ := HX.out
      obtain ⟨g, zz, hg⟩ := x3 dd5
      subst zz
      have hr6 := x2 hb
      have hng : g ≠ r := row_ne hg hr6 (by decide)
      have hrun := run_copy_row (P := Tryz.prog) wy 225 225 3 66 r 2 2 8 ⟨g, 0, none⟩ l.length l.length (scells s).toArray 69 (kv .u32 l) Tryz.underlying225 hsz hr6 (by rw [length_kv]; show l.length = min l.length 2; omega) (fun j v hj => by rw [add_plain]; exact (by rw [Nat.zero_add]; exact hg.cellAt hj)) (by simp [Su.length_scells, length_kv]; omega) (kv_one _ _)
      rw [show (scells s).toArray.toList = scells s from rfl, scells_lead hs hl, length_kv] at hrun
      have H6 := Lib.hid (Su.row_setRow_same (us := scells (leadS s l)) hr6)
      have HK6 := Lib.hid (x1.trans (butl_setRow wy r (scells (leadS s l)).toArray))
      have HBZ := Lib.hid (show Below 0 wy (wy.setRow r (scells (leadS s l)).toArray) from Su.setRow_below _ (Nat.zero_le _))
      have HG6 := Lib.hid (Su.row_setRow_other hg (scells (leadS s l)).toArray hng)
      clear x1 x2 x3 x4 hg hr6 HX
      rw [e3]
      refine if_wanted (by rfl) (wp_copy_run (.tmp 7) (.tmp 9) 225 225 rfl _ _ rfl rfl _ _ hrun ?_)
      have V := HV.out
      exact hK _ _ ⟨fun s => if s = 10 then .int .i64 (l.length : Int) else if s = 7 then .slice (some ⟨r, 2, none⟩) 2 8 else z s, _, rfl, Lib.hid ⟨V.1, V.2.1, V.2.2.1, fun _ => rfl, V.2.2.2.2.1, fun _ => rfl⟩, Lib.hid (HW.out.trans HBZ.out), Lib.hid ⟨HK6.out, fun e => (by cases e), fun _ => ⟨g, rfl, HG6.out⟩, fun _ => ⟨dd5, H6.out⟩⟩⟩
  case doneD =>
    rintro b a w9 hb ⟨z, z9, rfl, HV, HW, HX⟩
    have e0 := (HV.out.1) (hb 0)
    have e1 := (HV.out.2.1) (hb 1)
    have e2 := (HV.out.2.2.1) (hb 2)
    have e3 := (HV.out.2.2.2.1) (hb 3)
    have e4 := (HV.out.2.2.2.2.1) (hb 4)
    have e6 := (HV.out.2.2.2.2.2) (hb 6)
    simp only [e0, e1, e2, e3, e4, e6]
    clear HV e0 e1 e2 e3 e4 e6
    obtain ⟨x1, _, _, x4⟩ := HX.out
    have H9 := Lib.hid (And.intro (x4 (hb 6)).2 x1)
    clear x1 x4 HX HW hb
    go_wp2_with fail
    go_end0
    exact ⟨rfl, H9.out⟩

def sup0 (n : Nat) : Sup := 1 :: n :: List.replicate 16 0
theorem sup0_ok {n : Nat} (hn : n ≤ 4096) {l : List Nat} (hl : l.length ≤ 2) (hb : ∀ x ∈ l, x < 4294967296) : Su.Ok (leadS (sup0 n) l) := by
  have hlen : (sup0 n).length = 18 := rfl
  have key : ∀ j, nth (leadS (sup0 n) l) j < 4294967296 := fun j => by
    rcases Nat.lt_or_ge j 2 with h | h
    · rw [leadS_low hlen j h]
      rcases j with _ | _ | j
      · show 1 < 4294967296; omega
      · show n < _; omega
      · omega
    · rcases Nat.lt_or_ge j (2 + l.length) with h1 | h1
      · obtain ⟨i, rfl⟩ : ∃ i, j = 2 + i := ⟨j - 2, by omega⟩
        rw [leadS_mid hlen i (by omega)]
        exact hb _ (List.getElem_mem _)
      · rw [leadS_high hlen hl j h1]
        unfold nth sup0
        rcases j with _ | _ | j
        · omega
        · omega
        · simp only [List.getD_cons_succ]
          rw [List.getD_eq_getElem?_getD, List.getElem?_replicate]
          split <;> simp
  exact ⟨length_leadS hlen hl, fun j => by have := key j; omega, fun j _ _ => key j⟩
theorem sup0_fit {n : Nat} (h1 : 16 ≤ n) (hn : n ≤ 4096) {l : List Nat} (hl : l.length ≤ 2) (hb : ∀ x ∈ l, x < n) : Su.Fit (leadS (sup0 n) l) := by
  have hlen : (sup0 n).length = 18 := rfl
  have e0 : nth (leadS (sup0 n) l) 0 = 1 := leadS_low hlen 0 (by omega)
  have e1 : nth (leadS (sup0 n) l) 1 = n := leadS_low hlen 1 (by omega)
  refine ⟨by omega, by omega, by omega, fun i hi => ?_⟩
  rw [e1]
  rcases Nat.lt_or_ge i l.length with h | h
  · rw [leadS_mid hlen i h]; exact hb _ (List.getElem_mem _)
  · rw [leadS_high hlen hl (2 + i) (by omega)]
    unfold nth sup0
    rw [show 2 + i = i + 1 + 1 by omega]
    simp only [List.getD_cons_succ]
    rw [List.getD_eq_getElem?_getD, List.getElem?_replicate]
    split <;> simp <;> omega
def z128 : List UInt8 := List.replicate 128 0
/-- The steps of a Format. -/
def fmtSteps (n : Nat) (y : Wk) : List Stp := [.w 0 z128, .w 1 z128, .f] ++ (cntSteps y.q.s y.l1 (doneL y.f1) ++ dirSteps y.l1 y.l2 (doneL y.f2)) ++ finSteps (leadS (sup0 n) y.l2)
theorem getD_lt {l : List Nat} {n : Nat} (h : ∀ x ∈ l, x < n) (hn : 0 < n) (i : Nat) : l.getD i 0 < n := by
  rw [List.getD_eq_getElem?_getD]
  rcases Nat.lt_or_ge i l.length with h1 | h1
  · rw [List.getElem?_eq_getElem h1]; exact h _ (List.getElem_mem _)
  · rw [List.getElem?_eq_none h1]; exact hn
theorem q0_good {n : Nat} (h1 : 16 ≤ n) (h2 : n ≤ 400) : (Pl.begin (q0 n) (zeros (pg n)) (zeros (pg (pg n)))).Good := by
  have hok : (q0 n).Ok := ⟨.new (by omega) (by omega), by show 2 ≤ (St.new n).n; rw [n_new]; omega, Nat.le_refl _, .inr rfl, Nat.zero_le _⟩
  exact begin_good (l1 := zeros (pg n)) (l2 := zeros (pg (pg n))) hok (right_zeros n) (by show need (St.new n).n ≤ (q0 n).room; rw [n_new]; unfold q0; rw [new_room]; exact need_le h1 h2)
structure FmtY (n : Nat) (y : Wk) : Prop where
  good : y.Good
  hn : y.q.s.n = n
  len1 : y.l1.length = pg n
  len2 : y.l2.length = pg (pg n)
  lt1 : ∀ x ∈ y.l1, x < n
  lt2 : ∀ x ∈ y.l2, x < n
theorem fmtY {n : Nat} {y : Wk} (h1 : 16 ≤ n) (h2 : n ≤ 400) (hr : (Pl.begin (q0 n) (zeros (pg n)) (zeros (pg (pg n)))).Runs y) : FmtY n y := by
  obtain ⟨hs, hn, _⟩ := sound0 h1 h2 hr
  have hg := hr.good (q0_good h1 h2)
  have key : ∀ i, i < (y.l1 ++ y.l2).length → (y.l1 ++ y.l2).getD i 0 < n := fun i hi => by have := (hs.one i hi).2.1; have e : (Q.keep y.q).s.n = y.q.s.n := rfl; omega
  have mem : ∀ x ∈ y.l1 ++ y.l2, x < n := fun x hx => by
    obtain ⟨i, hi, rfl⟩ := List.mem_iff_getElem.1 hx
    have := key i hi
    rwa [List.getD_eq_getElem?_getD, List.getElem?_eq_getElem hi] at this
  exact ⟨hg, hn, by rw [hg.len1, hn], by rw [hg.len2, hn], fun x hx => mem x (List.mem_append.2 (.inl hx)), fun x hx => mem x (List.mem_append.2 (.inr hx))⟩
theorem steps_ok {n : Nat} {s : Tl.St} {m1 m2 k1 k2 : List Nat} (h1 : ∀ x ∈ m1, x < n) (h2 : ∀ x ∈ m2, x < n) (hn : 0 < n) : ∀ t ∈ cntSteps s m1 k1 ++ dirSteps m1 m2 k2, Stp.ok n t := by
  intro t ht
  rcases List.mem_append.1 ht with ht | ht
  · obtain ⟨i, _, rfl⟩ := List.mem_map.1 ht
    exact getD_lt h1 hn i
  · obtain ⟨i, _, rfl⟩ := List.mem_map.1 ht
    exact getD_lt h2 hn i
theorem fin_ok {n : Nat} (s : Sup) (hn : 2 ≤ n) : ∀ t ∈ finSteps s, Stp.ok n t := by
  intro t ht
  simp only [finSteps, List.mem_cons, List.not_mem_nil, or_false] at ht
  rcases ht with rfl | rfl | rfl
  · trivial
  · show nth s 0 % 2 < n; omega
  · trivial
theorem done_few' {f : List Bool} (h : f.length ≤ 4096) : (doneL f).length ≤ 4096 := Nat.le_trans (done_le f f.length) h
theorem FmtY.src {n : Nat} {y : Wk} (h : FmtY n y) (hn : n ≤ 400) {v : World} {ta cb mb c g1 d1 g3 d3 c1 c2 : Nat} {A1 A2 : Option Addr} (ht : Tl.At v ta cb mb c y.q.s) (r1 : ∃ sp, RowV v g1 3 (ints y.l1 ++ sp)) (r3 : ∃ sp, RowV v g3 3 (ints y.l2 ++ sp)) (t1 : ToldV v A1 (ints (doneL y.f1))) (t2 : ToldV v A2 (ints (doneL y.f2))) (hd : y.l1.length ≤ d1) (hd' : d1 ≤ maxLen) : Src v ta cb mb c y.q.s g1 d1 g3 d3 c1 c2 A1 A2 y.l1 y.l2 (doneL y.f1) (doneL y.f2) := by
  have e1 := h.len1
  have e2 := h.len2
  have p1 : pg n ≤ 68 := pg_le (by omega)
  have p2 : pg (pg n) ≤ 68 := pg_le (by omega)
  have f1 := h.good.fl1
  have f2 := h.good.fl2
  refine ⟨ht, r1, r3, t1, t2, by omega, fun _ => hd, fun _ => hd', fun x hx => by have := h.lt1 x hx; omega, fun i hi => ?_, fun i hi => ?_, done_few' (by omega), done_few' (by omega), by omega⟩
  · have := mem_done_lt hi
    rw [h.hn]
    omega
  · have := mem_done_lt hi
    have k : ∀ m, i < pg m → i * 61 < m := fun m hm => by unfold pg at hm; omega
    rw [f2, e2] at this
    have k1 := k (pg n) this
    omega
theorem length_fmt {n : Nat} {y : Wk} (h : FmtY n y) (hn : n ≤ 400) : (fmtSteps n y).length ≤ 200 := by
  have e1 := h.len1
  have e2 := h.len2
  have p1 : pg n ≤ 68 := pg_le (by omega)
  have p2 : pg (pg n) ≤ 68 := pg_le (by omega)
  have f1 := h.good.fl1
  have f2 := h.good.fl2
  have d1 := done_le y.f1 y.f1.length
  have d2 := done_le y.f2 y.f2.length
  unfold fmtSteps finSteps
  simp only [List.length_append, List.length_cons, List.length_nil, length_cntSteps, length_dirSteps]
  unfold doneL
  omega
theorem fmt_ok {n : Nat} {y : Wk} (h : FmtY n y) (hn : 16 ≤ n) : ∀ t ∈ fmtSteps n y, Stp.ok n t := by
  intro t ht
  rcases List.mem_append.1 ht with ht | ht
  · rcases List.mem_append.1 ht with ht | ht
    · simp only [List.mem_cons, List.not_mem_nil, or_false] at ht
      rcases ht with rfl | rfl | rfl
      · show 0 < n; omega
      · show 1 < n; omega
      · trivial
    · exact steps_ok h.lt1 h.lt2 (by omega) t ht
  · exact fin_ok _ (by omega) t ht
theorem settle_eq {w : World} {p ta cb mb c : Nat} {q : Q} (hq : PAt w p ta cb mb c q) {A1 A2 : Option Addr} {c1 c2 n m : Nat} {l1 l2 : List Nat} (h1 : ToldV w A1 (ints l1)) (h2 : ToldV w A2 (ints l2)) (hyes : RightS q.s (toI l1) (toI l2)) (hroom : need q.s.n ≤ q.room) (hn : l1.length = n) (hm : l2.length = m) :
    Calls Tryz.prog 109 #[.pointer (some ⟨ta, 0, none⟩), .pointer (some ⟨p, 0, none⟩), .agg #[.slice A1 n c1, .slice A2 m c2]] w (SetOut w p ta cb mb c q l1 l2) := by
  subst hn hm
  exact settle_yes hq h1 h2 hyes hroom
set_option maxHeartbeats 2000000 in
theorem format_any {Pr : Nat → Prop} {w : World} {d : Nat} {D : Dsk.St} (hd : DIs Pr w d D) (hc : Calm D) (hP : ∀ k, Pr k → k < w.heap.size) {n : Nat} (hn : D.n = n) (hn1 : 16 ≤ n) (hn2 : n ≤ 400) (hW : D.W.length < 100000) :
    Calls Tryz.prog 47 #[.pointer (some ⟨d, 0, none⟩)] w fun e w' => e = .returned (.int .i64 0) ∧ ∃ y, (Pl.begin (q0 n) (zeros (pg n)) (zeros (pg (pg n)))).Runs y ∧ DIs Pr w' d (doSteps D (fmtSteps n y)) ∧ Off dT Pr [] w w' := by
  have HD := Lib.hid hd
  have HP := Lib.hid hP
  have hne : ¬ ((n : Int) = 0) := by omega
  have HNN := Lib.hid hn
  clear hd hP hn
  go_enter Tryz.func47, Tryz.ntmps47
  go_wp2_with fail
  refine (Dsk.len_is HD.out.is).mono ?_
  rintro e w' ⟨rfl, rfl⟩
  rw [HNN.out]
  go_wp2_with fail
  refine (Tl.new_yes n (by omega) (by omega) w).mono ?_
  rintro e w1 ⟨ta, cb, mb, rfl, hF⟩
  have HF := Lib.hid hF
  clear hF
  go_wp2_with fail
  refine (pnew_yes HF.out.at' 2 (by rw [n_new]; omega)).mono ?_
  rintro e w2 ⟨p, rfl, hP2⟩
  have HP2 := Lib.hid hP2
  clear hP2
  go_wp2_with fail
  refine (nowhere_any n (by omega) w2).mono ?_
  rintro e w3 ⟨g1, g3, rfl, r1, r3, l1, l3, kz⟩
  have HN3 := Lib.hid (And.intro (HP2.out.at'.kept kz) (And.intro r1 (And.intro r3 (And.intro l1 (And.intro l3 kz)))))
  clear r1 r3 l1 l3 kz
  go_wp2_with fail
  refine (settle_eq HN3.out.1 (l1 := zeros (pg n)) (l2 := zeros (pg (pg n))) (HN3.out.2.1.has.told) (HN3.out.2.2.1.has.told) ?hyes ?hroom (by simp [zeros]) (by simp [zeros])).mono ?_
  case hyes => exact right_zeros n
  case hroom => rw [n_new, new_room]; exact need_le hn1 hn2
  rintro e w4 ⟨y, g1', d1, g3', d3, c1, c2, A1, A2, rfl, hruns, hp, hr1, hr3, t1, t2, hlo, hlo3, hb⟩
  have hy := fmtY hn1 hn2 hruns
  have e1 : (zeros (pg n)).length = y.l1.length := by rw [hy.len1]; simp [zeros]
  have e2 : (zeros (pg (pg n))).length = y.l2.length := by rw [hy.len2]; simp [zeros]
  have hbel : Below w.heap.size w w4 := by
    have s1 := HF.out.below.size
    have s2 := HP2.out.below.size
    have s3 := HN3.out.2.2.2.2.2.size
    have a1 := HF.out.hc
    have a2 := HF.out.hm
    have a3 := HP2.out.hp
    exact ((HF.out.below.trans (HP2.out.below.mono s1)).trans (HN3.out.2.2.2.2.2.mono (by omega))).trans (hb.below (by simp; omega) (by omega))
  rw [e1] at hlo
  rw [e1, e2]
  have HS := Lib.hid (And.intro hruns (And.intro (hy.src hn2 (d3 := d3) (c1 := c1) (c2 := c2) hp.tally hr1 hr3 t1 t2 hlo.2.1 hlo.2.2) (And.intro hbel hy)))
  clear hruns hp hr1 hr3 t1 t2 hlo hlo3 hb e1 e2 hbel hy HF HP2 HN3
  unfold lval
  go_upto_region 7 with (fail)
  have r5 := alloc_rowV w4 160 (lval g1' y.l1.length d1 g3' y.l2.length d3 A1 c1 (doneL y.f1).length A2 c2 (doneL y.f2).length)
  have b5 := (Below.refl w4.heap.size w4).alloc (Nat.le_refl _) (.cells (lval g1' y.l1.length d1 g3' y.l2.length d3 A1 c1 (doneL y.f1).length A2 c2 (doneL y.f2).length).toArray 160)
  have HSV := Lib.hid (And.intro (HS.out.2.1.kept b5) (And.intro (HS.out.2.2.1.trans (b5.mono HS.out.2.2.1.size)) (And.intro r5 (And.intro HS.out.1 HS.out.2.2.2))))
  obtain ⟨x8, hx8⟩ : ∃ x, x = w4.heap.size := ⟨_, rfl⟩
  rw [← hx8] at HSV ⊢
  clear HS r5 b5 hx8
  unfold lval at HSV
  generalize w4.alloc (.cells #[.slice (some ⟨g1', 0, none⟩) y.l1.length d1, .slice (some ⟨g3', 0, none⟩) y.l2.length d3, .slice A1 (doneL y.f1).length c1, .slice A2 (doneL y.f2).length c2] 160) = v at *
  have r6 := alloc_rowV v 180 [.pointer (some ⟨d, 0, none⟩), .slice none 0 0]
  have b6 := (Below.refl v.heap.size v).alloc (Nat.le_refl _) (.cells #[.pointer (some ⟨d, 0, none⟩), .slice none 0 0] 180)
  go_upto_region 8 with (fail)
  have HP0 := Lib.hid (Pln.empty r6 (Nat.le_refl _))
  obtain ⟨B, hB⟩ : ∃ x, x = v.heap.size := ⟨_, rfl⟩
  rw [← hB] at HP0 b6 ⊢
  have HB6 := Lib.hid b6
  have HBV := Lib.hid hB
  clear r6 b6 hB
  generalize v.alloc (.cells #[.pointer (some ⟨d, 0, none⟩), .slice none 0 0] 180) = w6 at *
  obtain ⟨P, hPB⟩ : ∃ x, x = B := ⟨_, rfl⟩
  have HB := Lib.hid (show B ≤ w6.heap.size from by have := HB6.out.size; have := HBV.out; omega)
  replace HP0 : Hid (Pln w6 B P d []) := Lib.hid (by rw [hPB]; exact HP0.out)
  have ht : ∀ X : Value → Prop, X (.pointer (some ⟨P, 0, none⟩)) → X (.pointer (some ⟨B, 0, none⟩)) := fun X h => hPB ▸ h
  rw [← hPB]
  clear ht hPB
  go_wp2_with fail
  go_loopw [38] (fun i wr => ∃ k : Nat, k ≤ 2 ∧ i = .int .i64 (k : Int) ∧ Hid (Pln wr B P d (((List.range 2).map fun p => Stp.w p z128).take k)) ∧ Hid (Below B w6 wr)) (fun i _ => 2 - (Go.RowKit.intOf i).toNat)
  case atStart => exact ⟨0, Nat.zero_le _, rfl, Lib.hid (by rw [List.take_zero]; exact HP0.out), Lib.hid (Below.refl _ _)⟩
  case round =>
    obtain ⟨k, hk, rfl, HP, HO⟩ := hrel
    have HBr := Lib.hid (show B ≤ wr.heap.size from Nat.le_trans HB.out HO.out.size)
    by_cases hlt : k < 2
    · have hki : (k : Int) < 2 := by omega
      have hge : (0 : Int) ≤ (k : Int) := by omega
      have hmk : (Instr.makeSlice 45 (.int .i64 128) (.int .i64 128)).run Tryz.prog wr = .ok (.slice (some ⟨wr.heap.size, 0, none⟩) 128 128) (wr.alloc (.cells (vals (List.replicate 128 0)).toArray 5)) := run_make_bytes wr 128 (by omega)
      have RZ := Lib.hid (alloc_row wr z128)
      have BZ := Lib.hid ((Below.refl wr.heap.size wr).alloc (Nat.le_refl _) (.cells (vals z128).toArray 5))
      go_wp2_with fail
      refine (pwrite (HP.out.below BZ.out) (Nat.le_trans HBr.out BZ.out.size) ?few k wr.heap.size 128 z128 (by decide) ⟨RZ.out.has, _, _, RZ.out⟩).mono ?_
      case few => rw [List.length_take]; omega
      rintro e w7 ⟨rfl, hp7, ho7⟩
      have HP7 := Lib.hid hp7
      have HO7 := Lib.hid ((HO.out.trans (BZ.out.mono HBr.out)).trans (off_below ho7 (Nat.le_trans HBr.out BZ.out.size)))
      clear hp7 ho7 hmk RZ BZ
      go_wp2_with fail
      go_roundw
      case rel => exact ⟨k + 1, by omega, by go_num, Lib.hid (by rw [show (((List.range 2).map fun p => Stp.w p z128).take (k + 1)) = ((List.range 2).map fun p => Stp.w p z128).take k ++ [Stp.w k z128] from by rcases k with _ | _ | k <;> first | rfl | omega]; exact HP7.out), HO7⟩
      case measure => simp [Go.RowKit.intOf]; omega
    · have hki : ¬ (k : Int) < 2 := by omega
      obtain rfl : k = 2 := by omega
      replace HP : Hid (Pln wr B P d [.w 0 z128, .w 1 z128]) := HP
      clear HP0
      go_wp2_with fail
      refine (pflush HP.out HBr.out (by simp)).mono ?_
      rintro e w7 ⟨rfl, hp7, ho7⟩
      have HP7 := Lib.hid hp7
      have HO7 := Lib.hid ((HB6.out.trans HO.out).trans (off_below ho7 HBr.out))
      have HBX := Lib.hid (HSV.out.2.2.1.below (by have := HSV.out.2.2.1.lt; have := HBV.out; omega) HO7.out)
      have c0 := HBX.out.cellAt (i := 0) rfl
      have c1' := HBX.out.cellAt (i := 1) rfl
      have c2' := HBX.out.cellAt (i := 2) rfl
      have c3' := HBX.out.cellAt (i := 3) rfl
      clear hp7 ho7 HO HP HB HBr HBX
      go_wp2_with fail
      refine (ppages (v := v) (by rw [← HBV.out]; exact HP7.out) (by rw [← HBV.out]; exact HO7.out) HSV.out.1 (by simp)).mono ?_
      rintro e w8 ⟨rfl, hp8, ho8⟩
      rw [← HBV.out] at hp8 ho8
      have s7 : B ≤ w7.heap.size := by have := HO7.out.size; have := HBV.out; omega
      have HP8 := Lib.hid hp8
      have HO8 := Lib.hid (HO7.out.trans (off_below ho8 s7))
      clear hp8 ho8 HP7 HO7 c0 c1' c2' c3' s7
      have hn32 : (n : Int) < 4294967296 := by omega
      have hn0 : (0 : Int) ≤ (n : Int) := by omega
      have r9 := alloc_rowV w8 69 (scells (sup0 n))
      have b9 := (Below.refl w8.heap.size w8).alloc (Nat.le_refl _) (.cells (scells (sup0 n)).toArray 69)
      have s8 : B ≤ w8.heap.size := by have := HO8.out.size; have := HBV.out; omega
      have HP9 := Lib.hid (HP8.out.below b9)
      have HO9 := Lib.hid (HO8.out.trans (b9.mono s8))
      have HR9 := Lib.hid (And.intro r9 s8)
      clear r9 b9 s8 HP8 HO8
      go_upto_region 16 with (fail)
      have hlit : (scells (sup0 n)).toArray = #[.int .u64 1, .int .u32 (n : Int), .int .u32 0, .int .u32 0, .int .u32 0, .int .u32 0, .int .u32 0, .int .u32 0, .int .u32 0, .int .u32 0, .int .u64 0, .int .u64 0, .int .u64 0, .int .u64 0, .int .u64 0, .int .u64 0, .int .u64 0, .int .u64 0] := rfl
      rw [hlit] at HP9 HO9 HR9
      obtain ⟨x12, hx12⟩ : ∃ x, x = w8.heap.size := ⟨_, rfl⟩
      rw [← hx12] at HR9 ⊢
      clear hn32 hn0 hlit hx12
      generalize w8.alloc (.cells #[.int .u64 1, .int .u32 (n : Int), .int .u32 0, .int .u32 0, .int .u32 0, .int .u32 0, .int .u32 0, .int .u32 0, .int .u32 0, .int .u32 0, .int .u64 0, .int .u64 0, .int .u64 0, .int .u64 0, .int .u64 0, .int .u64 0, .int .u64 0, .int .u64 0] 69) = w9 at *
      have HS9 := Lib.hid (HSV.out.1.kept (v' := w9) (by rw [← HBV.out]; exact HO9.out))
      have HBX := Lib.hid (HSV.out.2.2.1.below (by have := HSV.out.2.2.1.lt; have := HBV.out; omega) HO9.out)
      have c1' := HBX.out.cellAt (i := 1) rfl
      have HLF := Lib.hid (show y.l2.length ≤ 2 ∧ ∀ x ∈ y.l2, x < 4294967296 from ⟨by rw [HSV.out.2.2.2.2.len2]; have h1 : pg n ≤ 68 := pg_le (by omega); unfold pg at h1 ⊢; omega, fun x hx => by have := HSV.out.2.2.2.2.lt2 x hx; omega⟩)
      go_wp2_with fail
      refine (lead_any HR9.out.1 rfl (has_told HS9.out.r3) HLF.out.1 HLF.out.2).mono ?_
      rintro e w10 ⟨rfl, r10, k10⟩
      have HR10 := Lib.hid r10
      have HP10 := Lib.hid (HP9.out.off (T := fun t => t == 69) (Pr := fun _ => False) (show Off _ _ [] w9 w10 from ⟨k10.os, k10.tape, k10.output, k10.size, fun j hj _ hc => k10.block j hj (by
        simp only [List.mem_singleton]
        rintro rfl
        rcases hc with hc | hc
        · exact hc
        · have := hc _ _ _ HR9.out.1
          exact absurd this (by decide))⟩) rfl rfl rfl rfl rfl rfl)
      have HO10 := Lib.hid (HO9.out.trans (k10.below (by simp; exact HR9.out.2) (by have := HO9.out.size; have := HBV.out; omega)))
      clear r10 k10 HP9 HO9 HR9 HS9 HBX c1'
      go_wp2_with (first | (refine wpList_load_row rfl 69 (.tmp 12) rfl x12 rfl _ (scells (leadS (sup0 n) y.l2)).toArray _ _ HR10.out Tryz.underlying69 rfl (Su.size_scells _) ?_))
      have HLO := Lib.hid (show Su.Ok (leadS (sup0 n) y.l2) ∧ Su.Fit (leadS (sup0 n) y.l2) from ⟨sup0_ok (n := n) (by omega) HLF.out.1 HLF.out.2, sup0_fit hn1 (by omega) HLF.out.1 HSV.out.2.2.2.2.lt2⟩)
      have s10 : B ≤ w10.heap.size := by have := HO10.out.size; have := HBV.out; omega
      have lfm := length_fmt HSV.out.2.2.2.2 hn2
      have HFE := Lib.hid (show ([] ++ [.w 0 z128, .w 1 z128] ++ [.f] ++ (cntSteps y.q.s y.l1 (doneL y.f1) ++ dirSteps y.l1 y.l2 (doneL y.f2)) ++ finSteps (leadS (sup0 n) y.l2)) = fmtSteps n y from rfl)
      have HLE := Lib.hid lfm
      refine (pfinish HP10.out s10 ?few (leadS (sup0 n) y.l2) HLO.out.1 HLO.out.2).mono ?_
      case few =>
        have h1 := HLE.out
        unfold fmtSteps at h1
        simp only [List.length_append, List.length_cons, List.length_nil] at h1 ⊢
        omega
      rintro e w11 ⟨rfl, hp11, ho11⟩
      have HP11 := Lib.hid (show Pln w11 B P d (fmtSteps n y) from hp11)
      have HO11 := Lib.hid (HO10.out.trans (off_below ho11 s10))
      clear hp11 ho11 HP10 HO10 HR10 s10 lfm HFE
      go_wp2_with fail
      have HWB := Lib.hid (HSV.out.2.1.trans (HO11.out.mono (by have := HSV.out.2.1.size; have := HBV.out; omega)))
      refine (prun HP11.out (HD.out.below HWB.out) hc (fun k hk => Nat.lt_of_lt_of_le (HP.out k hk) HWB.out.size) (by have := HLE.out; omega) (fun t ht => by rw [HNN.out]; exact fmt_ok HSV.out.2.2.2.2 hn1 t ht)).mono ?_
      rintro e w12 ⟨rfl, hd12, ho12⟩
      have HZ := Lib.hid (And.intro hd12 ((Off.of_below dT Pr [] HWB.out (Nat.le_refl _)).trans ho12))
      clear hd12 ho12
      go_wp2_with fail
      go_ret
      exact ⟨rfl, y, HSV.out.2.2.2.1, HZ.out.1, HZ.out.2⟩

end Go.Proofs.YtogchamogbendaaGreat.Bs
