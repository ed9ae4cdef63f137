/- Several texts in one: BsO BsP BsQ BsR BsS BsT BsW. (Written by bin/prune.py.) -/
import Derived.Test.YtogchamogbendaaGreatQbr
import Derived.Test.YtogchamogbendaaGreatQbc
/- A disk's super. (Written by bin/gen_bso.py.) -/
namespace Go.Proofs.YtogchamogbendaaGreat.Bs
set_option maxRecDepth 100000
open Go.RowKit Go.Proofs.YtogchamogbendaaGreat.Oct Go.Proofs.YtogchamogbendaaGreat.Mv Go.Proofs.YtogchamogbendaaGreat.Tl Go.Proofs.YtogchamogbendaaGreat.Pk Go.Proofs.YtogchamogbendaaGreat.Pl Go.Maps Go.ChangeMaps
open Go.Proofs.YtogchamogbendaaGreat.Dsk (dT)
open Go.Proofs.YtogchamogbendaaGreat.Su (Sup nth scells scell psup perr pslot zero18)
set_option linter.unusedVariables false
set_option linter.unusedSimpArgs false

theorem two_zero (w : World) : (zeroValue 221).run Tryz.prog w = .ok (.agg #[.slice none 0 0, .slice none 0 0]) w := by kernel_rfl
theorem says_len {Pr : Nat → Prop} {w : World} {d : Nat} {D : Dsk.St} (hd : DIs Pr w d D) (p : Nat) (hp : p < D.n) : (D.says p).length = 128 := by
  obtain ⟨bb, bc, wv, h, _⟩ := hd
  exact Dsk.length_says h p hp
/-- What superOf answers: a super, or an error. -/
def SupOut (w : World) (s : Sup) (x : Int) (e : Ending) (w' : World) : Prop := e = .returned (.tuple #[.agg (scells s).toArray, .int .i64 x]) ∧ Below w.heap.size w w'
structure TwoAt (D : Dsk.St) (w : World) (x : Nat) (k : Nat) : Prop where
  row : ∃ vs, RowV w x 221 vs ∧ vs.length = 2 ∧ ∀ j, j < k → ∃ g, vs[j]? = some (.slice (some ⟨g, 0, none⟩) 128 128) ∧ Row w g (D.says j)
theorem TwoAt.step {D : Dsk.St} {w : World} {x k g : Nat} {vs : List Value} (hv : RowV w x 221 vs) (hl : vs.length = 2) (hj : ∀ j, j < k → ∃ g, vs[j]? = some (.slice (some ⟨g, 0, none⟩) 128 128) ∧ Row w g (D.says j)) (hk : k < 2) (hg : Row w g (D.says k)) : TwoAt D (w.setCell ⟨x, k, none⟩ (.slice (some ⟨g, 0, none⟩) 128 128)) x (k + 1) := by
  have other : ∀ {h : Nat} {bs : List UInt8}, Row w h bs → Row (w.setCell ⟨x, k, none⟩ (.slice (some ⟨g, 0, none⟩) 128 128)) h bs := fun {h bs} r =>
    (heap_setCell_other w ⟨x, k, none⟩ h _ (row_ne (T := 5) (vs := vals bs) r hv (by decide))).trans r
  refine ⟨_, hv.set k _, by simp [hl], fun j hj' => ?_⟩
  by_cases e : j = k
  · subst e
    exact ⟨g, by rw [List.getElem?_set_self (by omega)], other hg⟩
  · obtain ⟨g', h1, h2⟩ := hj j (by omega)
    exact ⟨g', by rw [List.getElem?_set_ne (fun q => e q.symm)]; exact h1, other h2⟩
theorem results_sup2 {fn : Func} {p u : Tmp} (h : fn.results = #[.cell p 69, .tmp u]) (tmps : Array Value) (w : World) (g : Nat) (s : Sup) (hx : tmps.getD p undef = .pointer (some ⟨g, 0, none⟩)) (hr : RowV w g 69 (scells s)) :
    (results fn tmps).run Tryz.prog w = .ok (.tuple #[.agg (scells s).toArray, tmps.getD u undef]) w := by
  have hl := run_loadVar_row (P := Tryz.prog) w g 69 69 (scells s).toArray (0, 0) _ hr Tryz.underlying69 rfl (Su.size_scells s)
  simp only [results, h]
  simp only [Array.getD_eq_getD_getElem?] at hx
  simp [Result.andThen, hx, asAddr, hl]
set_option maxHeartbeats 4000000 in
theorem superOf_any {Pr : Nat → Prop} {w : World} {d : Nat} {D : Dsk.St} (hd : DIs Pr w d D) (hg : D.gone = false) {n : Nat} (hn : D.n = n) (h2 : 2 ≤ n) (hn4 : n ≤ 4096) {s : Sup} {i x : Int} (hs : psup (D.says 0) (D.says 1) = s ∧ pslot (D.says 0) (D.says 1) = i ∧ perr (D.says 0) (D.says 1) = x) (hc : x = 0 ∧ nth s 1 = n ∨ x ≠ 0) {s' : Sup} {x' : Int} (hq : (x = 0 → s' = s ∧ x' = 0) ∧ (x ≠ 0 → s' = zero18 ∧ x' = 112)) :
    Calls Tryz.prog 74 #[.pointer (some ⟨d, 0, none⟩)] w (SupOut w s' x') := by
  have HD := Lib.hid hd
  have HN := Lib.hid hn
  have HS := Lib.hid hs
  have HC := Lib.hid hc
  have HQ := Lib.hid hq
  have HOS := Lib.hid (show Su.Ok s from hs.1 ▸ Su.ok_psup _ _)
  clear hd hn hs hc hq
  have hz := two_zero
  have r2 := alloc_rowV w 69 (scells zero18)
  have b2 := (Below.refl w.heap.size w).alloc (Nat.le_refl _) (.cells #[(.int .u64 0), (.int .u32 0), (.int .u32 0), (.int .u32 0), (.int .u32 0), (.int .u32 0), (.int .u32 0), (.int .u32 0), (.int .u32 0), (.int .u32 0), (.int .u64 0), (.int .u64 0), (.int .u64 0), (.int .u64 0), (.int .u64 0), (.int .u64 0), (.int .u64 0), (.int .u64 0)] 69)
  go_enter Tryz.func74, Tryz.ntmps74
  go_upto_region 1 with (fail)
  have HR2 := Lib.hid (show RowV (w.alloc (.cells #[(.int .u64 0), (.int .u32 0), (.int .u32 0), (.int .u32 0), (.int .u32 0), (.int .u32 0), (.int .u32 0), (.int .u32 0), (.int .u32 0), (.int .u32 0), (.int .u64 0), (.int .u64 0), (.int .u64 0), (.int .u64 0), (.int .u64 0), (.int .u64 0), (.int .u64 0), (.int .u64 0)] 69)) w.heap.size 69 (scells zero18) from r2)
  have HB1 := Lib.hid b2
  clear r2 b2
  obtain ⟨x2, hx2⟩ : ∃ x, x = w.heap.size := ⟨_, rfl⟩
  have HX2 := Lib.hid hx2
  generalize hw1 : w.alloc (.cells #[(.int .u64 0), (.int .u32 0), (.int .u32 0), (.int .u32 0), (.int .u32 0), (.int .u32 0), (.int .u32 0), (.int .u32 0), (.int .u32 0), (.int .u32 0), (.int .u64 0), (.int .u64 0), (.int .u64 0), (.int .u64 0), (.int .u64 0), (.int .u64 0), (.int .u64 0), (.int .u64 0)] 69) = w1 at *
  rw [← hx2] at HR2 ⊢
  clear hw1 hx2
  have r4 := alloc_rowV w1 221 [.slice none 0 0, .slice none 0 0]
  have b4 := (Below.refl w1.heap.size w1).alloc (Nat.le_refl _) (.cells #[.slice none 0 0, .slice none 0 0] 221)
  go_upto_region 2 with (fail)
  have HR4 := Lib.hid (show TwoAt D _ w1.heap.size 0 from ⟨_, r4, rfl, fun j hj => absurd hj (Nat.not_lt_zero j)⟩)
  have HR2' := Lib.hid (HR2.out.below HR2.out.lt b4)
  have HB4 := Lib.hid (HB1.out.trans (b4.mono HB1.out.size))
  obtain ⟨x4, hx4⟩ : ∃ x, x = w1.heap.size := ⟨_, rfl⟩
  have HX4 := Lib.hid (show x2 < x4 ∧ x2 = w.heap.size from ⟨by rw [hx4]; exact HR2.out.lt, HX2.out⟩)
  rw [← hx4] at HR4 ⊢
  clear r4 b4 hx4 HR2 HB1 hz HX2
  generalize w1.alloc (.cells #[.slice none 0 0, .slice none 0 0] 221) = w2 at *
  go_wp2_with fail
  go_loopw [11] (fun i wr => ∃ k : Nat, k ≤ 2 ∧ i = .int .i64 (k : Int) ∧ Hid (TwoAt D wr x4 k) ∧ Hid (RowV wr x2 69 (scells zero18)) ∧ Hid (Below w.heap.size w wr)) (fun i _ => 2 - (Go.RowKit.intOf i).toNat)
  case atStart => exact ⟨0, Nat.zero_le _, rfl, HR4, HR2', HB4⟩
  case round =>
    obtain ⟨k, hk, rfl, HT, HR, HB⟩ := hrel
    clear HR4 HR2' HB4
    by_cases hlt : k < 2
    · have hki : (k : Int) < 2 := by omega
      have hge : (0 : Int) ≤ (k : Int) := by omega
      go_wp2_with fail
      refine (Dsk.read_yes (HD.out.below HB.out).is hg k (by have := HN.out; omega)).mono ?_
      rintro e w3 ⟨g, rfl, hlo, hrow, kz⟩
      obtain ⟨vs, hvs, hl, hj⟩ := HT.out.row
      have HV := Lib.hid (hvs.below hvs.lt kz)
      have HJ := Lib.hid (show ∀ j, j < k → ∃ g, vs[j]? = some (.slice (some ⟨g, 0, none⟩) 128 128) ∧ Row w3 g (D.says j) from fun j h => by obtain ⟨g, h1, h2⟩ := hj j h; exact ⟨g, h1, (kz.block g (lt_of_heap h2)).trans h2⟩)
      have HG := Lib.hid (And.intro hrow (Nat.lt_of_lt_of_le hvs.lt hlo))
      have HR3 := Lib.hid (HR.out.below HR.out.lt kz)
      have HB3 := Lib.hid (HB.out.trans (kz.mono HB.out.size))
      have f0 := HV.out.free k
      obtain ⟨ok, hok⟩ : ∃ v, vs[k]? = some v := ⟨_, List.getElem?_eq_getElem (by omega)⟩
      have qk := HV.out.cellAt hok
      clear hok
      have HL := Lib.hid hl
      clear hvs hj hrow hlo kz HR HB HT hl
      go_wp2_with fail
      go_roundw
      case rel => exact ⟨k + 1, by omega, by go_num, Lib.hid (TwoAt.step HV.out HL.out HJ.out hlt HG.out.1), Lib.hid (HR3.out.other (by have := HX4.out.1; omega)), Lib.hid (HB3.out.trans ((ButL.set w3 x4 k (.slice (some ⟨g, 0, none⟩) 128 128)).below (B := w.heap.size) (by simp; have := HX4.out; omega) HB3.out.size))⟩
      case measure => simp [Go.RowKit.intOf]; omega
    · have hki : ¬ (k : Int) < 2 := by omega
      obtain rfl : k = 2 := by omega
      obtain ⟨vs, hvs, hl, hj⟩ := HT.out.row
      obtain ⟨ga, h0, ra⟩ := hj 0 (by omega)
      obtain ⟨gb, h1, rb⟩ := hj 1 (by omega)
      have q0 := hvs.cellAt h0
      have q1 := hvs.cellAt h1
      have HRA := Lib.hid (And.intro ra rb)
      clear hvs hl hj h0 h1 ra rb HT hki
      go_upto_region 10 with (fail)
      go_wp2_with fail
      refine (Su.pick_bts (n := 128) (c := 128) (m := 128) (d := 128) (Su.Bts.page HRA.out.1.has (says_len HD.out 0 (by have := HN.out; omega))) (Su.Bts.page HRA.out.2.has (says_len HD.out 1 (by have := HN.out; omega))) HS.out).mono ?_
      rintro e w5 ⟨rfl, kz⟩
      have hst := run_storeCells_new (P := Tryz.prog) w5 69 #[(.int .u64 0), (.int .u32 0), (.int .u32 0), (.int .u32 0), (.int .u32 0), (.int .u32 0), (.int .u32 0), (.int .u32 0), (.int .u32 0), (.int .u32 0), (.int .u64 0), (.int .u64 0), (.int .u64 0), (.int .u64 0), (.int .u64 0), (.int .u64 0), (.int .u64 0), (.int .u64 0)] (scells s).toArray (Su.size_scells _) (by simp [Su.length_scells]) (Su.one_scells _)
      have hlc := Su.length_scells s
      have r6 := alloc_rowV w5 69 (scells s)
      have b6 := (Below.refl w5.heap.size w5).alloc (Nat.le_refl _) (.cells (scells s).toArray 69)
      have HR5 := Lib.hid (HR.out.below HR.out.lt kz)
      have HB5 := Lib.hid (HB.out.trans (kz.mono HB.out.size))
      clear kz HR HB q0 q1 HRA
      go_upto_region 11 with (fail)
      have HR6 := Lib.hid (HR5.out.below HR5.out.lt b6)
      have HB6 := Lib.hid (HB5.out.trans (b6.mono HB5.out.size))
      have HX6 := Lib.hid r6
      clear hst hlc r6 b6 HR5 HB5
      generalize w5.alloc (.cells (scells s).toArray 69) = w6 at *
      generalize w5.heap.size = x8 at *
      have HLEN := Lib.hid (show ∀ m, Calls Tryz.prog 20 #[.pointer (some ⟨d, 0, none⟩)] (w6.drewN m) fun e w' => e = .returned (.int .i64 (n : Int)) ∧ w6.drewN m = w' from fun m => by
        have h := Dsk.len_is (HD.out.below (HB6.out.trans ((Still.drewN w6 m).below _))).is
        rw [HN.out] at h
        exact h)
      by_cases hx : x = 0
      · have hs1 : nth s 1 = n := by rcases HC.out with h | h; exact h.2; exact absurd hx h
        obtain ⟨rfl, rfl⟩ := HQ.out.1 hx
        subst hx
        have c1 := HX6.out.cellAt (Su.scells_at s' 1 (by decide))
        rw [Su.scell_small _ _ (by omega) (by omega), hs1] at c1
        have hw : wrap64 (n : Int) = n := by unfold wrap64; omega
        go_quiet ((go_at_call 20; exact Calls.quiet_of_same (calls_flip (HLEN.out _))))
        clear c1 hw
        have HX7 := Lib.hid (HX6.out.still (Still.drewN w6 nq))
        have HR7 := Lib.hid (HR6.out.still (Still.drewN w6 nq))
        have HB7 := Lib.hid (HB6.out.trans ((Still.drewN w6 nq).below _))
        go_wp2_with (first | (refine wpList_load_row rfl 69 (.tmp 8) rfl x8 rfl _ (scells s').toArray _ _ HX7.out Tryz.underlying69 rfl (Su.size_scells _) ?_) | (refine wpList_store_row rfl 69 (.tmp 2) (.tmp 48) rfl x2 (scells s').toArray rfl rfl _ _ HR7.out (Su.size_scells _) (by simp [Su.length_scells]) (Su.one_scells _) ?_))
        refine bodyPost_ret (results_sup2 rfl _ _ x2 s' rfl (Su.row_setRow_same HR7.out)) rfl ⟨rfl, HB7.out.trans (Su.setRow_below _ (by have := HX4.out.2; omega))⟩
      · have hxb : (x == 0) = false := by rw [beq_eq_false_iff_ne]; exact hx
        obtain ⟨rfl, rfl⟩ := HQ.out.2 hx
        go_quiet (fail)
        have HX7 := Lib.hid (HX6.out.still (Still.drewN w6 nq))
        have HR7 := Lib.hid (HR6.out.still (Still.drewN w6 nq))
        have HB7 := Lib.hid (HB6.out.trans ((Still.drewN w6 nq).below _))
        go_wp2_with (first | (refine wpList_build_as rfl 69 #[] rfl (scells zero18).toArray ?_ ?_; (simp [Act.eval]); exact Su.built_zero) | (refine wpList_store_row rfl 69 (.tmp 2) (.tmp 47) rfl x2 (scells zero18).toArray rfl rfl _ _ HR7.out (Su.size_scells _) (by simp [Su.length_scells]) (Su.one_scells _) ?_))
        refine bodyPost_ret (results_sup2 rfl _ _ x2 zero18 rfl (Su.row_setRow_same HR7.out)) rfl ⟨rfl, HB7.out.trans (Su.setRow_below _ (by have := HX4.out.2; omega))⟩

end Go.Proofs.YtogchamogbendaaGreat.Bs
/- A row of numbers, read out of its pages. (Written by bin/gen_bsp.py.) -/
namespace Go.Proofs.YtogchamogbendaaGreat.Bs
set_option maxRecDepth 100000
open Go.RowKit Go.Proofs.YtogchamogbendaaGreat.Oct Go.Proofs.YtogchamogbendaaGreat.Mv Go.Proofs.YtogchamogbendaaGreat.Tl Go.Proofs.YtogchamogbendaaGreat.Pk Go.Proofs.YtogchamogbendaaGreat.Pl Go.Maps Go.ChangeMaps
open Go.Proofs.YtogchamogbendaaGreat.Dsk (dT)
open Go.Proofs.YtogchamogbendaaGreat.Ix (idxPage idxBody wvals Wd OwnW DecYes)
set_option linter.unusedVariables false
set_option linter.unusedSimpArgs false

/-- What a page has of a row. -/
def ptW (l : List UInt16) (i : Nat) : List UInt16 := (l.drop (i * 61)).take 61
/-- The first pages of a row, and noughts. -/
def upW (l : List UInt16) (k : Nat) : List UInt16 := l.take (k * 61) ++ List.replicate (l.length - k * 61) 0
theorem length_ptW (l : List UInt16) (i : Nat) : (ptW l i).length = min 61 (l.length - i * 61) := by simp [ptW]
theorem length_upW (l : List UInt16) (k : Nat) : (upW l k).length = l.length := by simp [upW]; omega
theorem upW_zero (l : List UInt16) : upW l 0 = List.replicate l.length 0 := by simp [upW]
theorem upW_all (l : List UInt16) (k : Nat) (h : l.length ≤ k * 61) : upW l k = l := by
  unfold upW
  rw [List.take_of_length_le h, Nat.sub_eq_zero_of_le h]
  simp
theorem upW_step (l : List UInt16) (k : Nat) (h : k * 61 < l.length) : (upW l k).take (k * 61) ++ ptW l k ++ (upW l k).drop (k * 61 + (ptW l k).length) = upW l (k + 1) := by
  have hl : (l.take (k * 61)).length = k * 61 := by rw [List.length_take]; omega
  have e1 : (upW l k).take (k * 61) = l.take (k * 61) := by
    unfold upW
    rw [List.take_append_of_le_length (by omega), List.take_of_length_le (by omega)]
  have e2 : (upW l k).drop (k * 61 + (ptW l k).length) = List.replicate (l.length - (k + 1) * 61) 0 := by
    unfold upW
    rw [List.drop_append, List.drop_of_length_le (by omega), List.nil_append, hl, List.drop_replicate, length_ptW]
    congr 1
    omega
  rw [e1, e2]
  unfold upW ptW
  rw [show (k + 1) * 61 = k * 61 + 61 by omega, List.take_add]
theorem nums_step (l : List UInt16) (k : Nat) (h : k * 61 < l.length) : (nums (upW l k)).take (k * 61) ++ nums (ptW l k) ++ (nums (upW l k)).drop (k * 61 + (nums (ptW l k)).length) = nums (upW l (k + 1)) := by
  have := congrArg nums (upW_step l k h)
  simpa [nums, List.map_take, List.map_drop] using this
theorem nums_wvals (l : List UInt16) : wvals l = nums l := rfl
/-- What row answers. -/
def RowOut (w : World) (l : List UInt16) (e : Ending) (w' : World) : Prop := ∃ g, e = .returned (.tuple #[.slice (some ⟨g, 0, none⟩) l.length l.length, .int .i64 0]) ∧ RowV w' g 34 (nums l) ∧ w.heap.size ≤ g ∧ Below w.heap.size w w'
set_option maxHeartbeats 4000000 in
theorem row_yes {Pr : Nat → Prop} {w : World} {d : Nat} {D : Dsk.St} (hd : DIs Pr w d D) (hg : D.gone = false) {m : Nat} (hm : D.n = m) {A : Option Addr} {c : Nat} {l : List Nat} (ht : ToldV w A (ints l)) {W : List UInt16} (hW : W.length ≤ 4096) (hl : l.length = pg W.length) (k : UInt8) (hk : k = 4 ∨ k = 5)
    (h2 : ∀ i, i < l.length → 2 ≤ l.getD i 0 ∧ l.getD i 0 < m ∧ D.says (l.getD i 0) = idxPage k (ptW W i)) :
    Calls Tryz.prog 138 #[.pointer (some ⟨d, 0, none⟩), .int .u8 (k.toNat : Int), .slice A l.length c, .int .i64 (W.length : Int)] w (RowOut w W) := by
  have HD := Lib.hid hd
  have HM := Lib.hid hm
  have HT := Lib.hid ht
  have H2 := Lib.hid h2
  have HL := Lib.hid hl
  obtain ⟨n, hn⟩ : ∃ n, n = W.length := ⟨_, rfl⟩
  have HN := Lib.hid hn
  rw [← hn] at hW ⊢
  have hl68 : l.length ≤ 68 := by rw [HL.out, ← hn]; exact pg_le hW
  have hmk := run_make_words w n hW
  have r0 := alloc_rowV w 34 (nums (List.replicate n 0))
  have b0 := (Below.refl w.heap.size w).alloc (Nat.le_refl _) (.cells (nums (List.replicate n 0)).toArray 34)
  clear hd hm ht h2 hl hn
  go_enter Tryz.func138, Tryz.ntmps138
  go_upto_region 2 with (fail)
  have HR0 := Lib.hid (show RowV _ w.heap.size 34 (nums (upW W 0)) by rw [upW_zero, ← HN.out]; exact r0)
  have HB0 := Lib.hid b0
  clear r0 b0 hmk
  obtain ⟨g, hgq⟩ : ∃ g, g = w.heap.size := ⟨_, rfl⟩
  rw [← hgq] at HR0 ⊢
  have HG := Lib.hid hgq
  generalize w.alloc (.cells (nums (List.replicate n 0)).toArray 34) = w1 at *
  clear hgq
  go_wp2_with fail
  go_loopw [21] (fun i wr => ∃ j : Nat, j ≤ l.length ∧ i = .int .i64 (j : Int) ∧ Hid (RowV wr g 34 (nums (upW W j))) ∧ Hid (Below w.heap.size w wr)) (fun i _ => l.length - (Go.RowKit.intOf i).toNat)
  case atStart => exact ⟨0, Nat.zero_le _, rfl, HR0, HB0⟩
  case round =>
    obtain ⟨j, hj, rfl, HR, HB⟩ := hrel
    clear HR0 HB0
    by_cases hlt : j < l.length
    · have hji : (j : Int) < (l.length : Int) := by omega
      have hj0 : (0 : Int) ≤ (j : Int) := by omega
      obtain ⟨b1, o1, rfl, hb1, hc1⟩ := told_nat (HT.out.below HB.out) hlt
      have HX := Lib.hid (H2.out j hlt)
      generalize l.getD j 0 = x at *
      have h5 : ¬ (x : Int) < 2 := by have := HX.out.1; omega
      have h6 : ¬ (m : Int) ≤ (x : Int) := by have := HX.out.2.1; omega
      have HLEN := Lib.hid (show Calls Tryz.prog 20 #[.pointer (some ⟨d, 0, none⟩)] wr fun e w' => e = .returned (.int .i64 (m : Int)) ∧ wr = w' from by
        have h := Dsk.len_is (HD.out.below HB.out).is
        rw [HM.out] at h
        exact h)
      go_wp2_with fail
      refine HLEN.out.mono ?_
      rintro e w' ⟨rfl, rfl⟩
      have HRd := HR
      have HBd := HB
      clear HLEN HR HB
      go_wp2_with fail
      refine (Dsk.read_yes (HD.out.below HBd.out).is hg x (by have := HX.out.2.1; have := HM.out; omega)).mono ?_
      rintro e w3 ⟨g3, rfl, hlo3, hrow3, kz⟩
      have HR3 := Lib.hid (HRd.out.below HRd.out.lt kz)
      have HB3 := Lib.hid (HBd.out.trans (kz.mono HBd.out.size))
      have HG3 := Lib.hid (show Row w3 g3 (idxPage k (ptW W j)) by rw [← HX.out.2.2]; exact hrow3)
      clear hlo3 hrow3 kz HRd HBd
      go_wp2_with fail
      refine (Ix.decode_page k g3 0 128 (ptW W j) w3 ⟨hk, by rw [length_ptW]; omega⟩ HG3.out.has (Nat.le_refl _) (by decide)).mono ?_
      rintro e w4 ⟨v, rfl, hv, kz⟩
      obtain ⟨A4, c4, rfl, hWd, -⟩ := hv.told
      have HW4 := Lib.hid hWd
      have HR4 := Lib.hid (HR3.out.below HR3.out.lt kz)
      have HB4 := Lib.hid (HB3.out.trans (kz.mono HB3.out.size))
      clear hv hWd kz HR3 HB3 HG3
      obtain ⟨r, hr⟩ : ∃ r, r = min 61 (n - j * 61) := ⟨_, rfl⟩
      have hjn : j * 61 < n := by have h := HL.out; rw [← HN.out] at h; rw [h] at hlt; unfold pg at hlt; omega
      have HRL := Lib.hid (show (ptW W j).length = r ∧ r = min 61 (n - j * 61) ∧ j * 61 < n from ⟨by rw [length_ptW, hr, HN.out], hr, hjn⟩)
      rw [HRL.out.1]
      clear hr
      go_wp2_with fail
      refine (part_uint16 j HRL.out.2.2 (Nat.le_refl _) (by unfold maxLen; omega) hW).mono ?_
      rintro e w' ⟨rfl, rfl⟩
      rw [← HRL.out.2.1]
      obtain ⟨b4, o4, rfl, hH4⟩ := HW4.out.ws.has (by rw [nums_wvals]; simp only [nums, List.length_map]; rw [HRL.out.1]; have := HRL.out.2; omega)
      have hsz : (Tryz.prog.info? 34).map (·.size) = some 1 := by kernel_rfl
      have hcp := run_copy_row (P := Tryz.prog) w4 134 134 3 34 g (j * 61) r (n - j * 61) ⟨b4, o4, none⟩ r c4 (nums (upW W j)).toArray 34 (nums (ptW W j)) Tryz.underlying134 hsz HR4.out
        (by simp only [nums, List.length_map]; rw [HRL.out.1]; exact (Nat.min_self r).symm)
        (fun q v hq => by rw [add_plain]; exact hH4.cellAt hq)
        (by simp only [nums, List.length_map, List.size_toArray]; rw [length_upW, HRL.out.1, ← HN.out]; have := HRL.out.2; omega)
        (fun v hv => by obtain ⟨z, _, rfl⟩ := List.mem_map.1 hv; rfl)
      rw [show (nums (upW W j)).toArray.toList = nums (upW W j) from rfl, nums_step W j (by rw [← HN.out]; exact HRL.out.2.2)] at hcp
      rw [show (nums (ptW W j)).length = r by simp only [nums, List.length_map]; exact HRL.out.1] at hcp
      have HC := Lib.hid (And.intro (show RowV (w4.setRow g (nums (upW W (j + 1))).toArray) g 34 (nums (upW W (j + 1))) from setRow_heap w4 g _ _ _ _ HR4.out) (HB4.out.trans (Su.setRow_below (B := w.heap.size) (nums (upW W (j + 1))).toArray (Nat.le_of_eq HG.out.symm))))
      clear hsz hH4 HW4 HB4 HR4 hjn
      go_wp2_with fail
      clear hcp
      go_roundw
      case rel => exact ⟨j + 1, by omega, by go_num, HC⟩
      case measure => simp [Go.RowKit.intOf]; omega
    · have hji : ¬ (j : Int) < (l.length : Int) := by omega
      obtain rfl : j = l.length := by omega
      have HZ := Lib.hid (show RowV wr g 34 (nums W) by
        have h := HR.out
        rwa [upW_all W l.length (by rw [HL.out]; unfold pg; omega)] at h)
      clear HR
      go_wp2_with fail
      go_ret2
      exact ⟨g, by simp [HN.out], HZ.out, Nat.le_of_eq HG.out.symm, HB.out⟩

end Go.Proofs.YtogchamogbendaaGreat.Bs
/- Where the pages of a super stand, and all counts. (Written by bin/gen_bsq.py.) -/
namespace Go.Proofs.YtogchamogbendaaGreat.Bs
set_option maxRecDepth 100000
open Go.RowKit Go.Proofs.YtogchamogbendaaGreat.Oct Go.Proofs.YtogchamogbendaaGreat.Mv Go.Proofs.YtogchamogbendaaGreat.Tl Go.Proofs.YtogchamogbendaaGreat.Pk Go.Proofs.YtogchamogbendaaGreat.Pl Go.Maps Go.ChangeMaps
open Go.Proofs.YtogchamogbendaaGreat.Dsk (dT)
open Go.Proofs.YtogchamogbendaaGreat.Su (Sup nth scells scell)
open Go.Proofs.YtogchamogbendaaGreat.Ix (idxPage idxBody wvals Wd OwnW DecYes)
set_option linter.unusedVariables false
set_option linter.unusedSimpArgs false
set_option pp.deepTerms true

theorem row4 {Pr : Nat → Prop} {w : World} {d : Nat} {D : Dsk.St} (hd : DIs Pr w d D) (hg : D.gone = false) {m n : Nat} (hm : D.n = m) {A : Option Addr} {c : Nat} {l : List Nat} (ht : ToldV w A (ints l)) {W : List UInt16} (hn : W.length = n) (hW : n ≤ 4096) {q : Nat} (hq : l.length = q) (hl : q = pg n)
    (h2 : ∀ i, i < l.length → 2 ≤ l.getD i 0 ∧ l.getD i 0 < m ∧ D.says (l.getD i 0) = idxPage 4 (ptW W i)) :
    Calls Tryz.prog 138 #[.pointer (some ⟨d, 0, none⟩), .int .u8 4, .slice A q c, .int .i64 (n : Int)] w fun e w' => ∃ g, e = .returned (.tuple #[.slice (some ⟨g, 0, none⟩) n n, .int .i64 0]) ∧ RowV w' g 34 (nums W) ∧ w.heap.size ≤ g ∧ Below w.heap.size w w' := by
  subst hn hq
  exact row_yes hd hg hm ht hW hl 4 (.inl rfl) h2
theorem row5 {Pr : Nat → Prop} {w : World} {d : Nat} {D : Dsk.St} (hd : DIs Pr w d D) (hg : D.gone = false) {m n : Nat} (hm : D.n = m) {A : Option Addr} {c : Nat} {l : List Nat} (ht : ToldV w A (ints l)) {W : List UInt16} (hn : W.length = n) (hW : n ≤ 4096) {q : Nat} (hq : l.length = q) (hl : q = pg n)
    (h2 : ∀ i, i < l.length → 2 ≤ l.getD i 0 ∧ l.getD i 0 < m ∧ D.says (l.getD i 0) = idxPage 5 (ptW W i)) :
    Calls Tryz.prog 138 #[.pointer (some ⟨d, 0, none⟩), .int .u8 5, .slice A q c, .int .i64 (n : Int)] w fun e w' => ∃ g, e = .returned (.tuple #[.slice (some ⟨g, 0, none⟩) n n, .int .i64 0]) ∧ RowV w' g 34 (nums W) ∧ w.heap.size ≤ g ∧ Below w.heap.size w w' := by
  subst hn hq
  exact row_yes hd hg hm ht hW hl 5 (.inr rfl) h2
theorem results_cell3 {fn : Func} {p u v : Tmp} {ty : TypeId} (h : fn.results = #[.cell p ty, .tmp u, .tmp v]) (tmps : Array Value) (P : Program) (w : World) :
    (results fn tmps).run P w =
      ((asAddr (tmps.getD p undef)).run P w).andThen fun a w₁ => ((loadVar ty a).run P w₁).andThen fun z w₂ => .ok (.tuple #[z, tmps.getD u undef, tmps.getD v undef]) w₂ := by
  simp only [results, h]
  simp [Sem.run_bind, Result.andThen]
theorem roots_take {s : Sup} {l2 : List Nat} {q : Nat} (hq : l2.length = q) (h1 : 1 ≤ q) (h2 : q ≤ 2) (h : ∀ j, j < 2 → nth s (2 + j) = l2.getD j 0) : ints l2 ++ (ints [nth s 2, nth s 3]).drop q = ints [nth s 2, nth s 3] := by
  have e0 : nth s 2 = l2.getD 0 0 := h 0 (by omega)
  have e1 : nth s 3 = l2.getD 1 0 := h 1 (by omega)
  subst hq
  rw [e0, e1]
  match l2, h1, h2 with
  | [a], _, _ => rfl
  | [a, b], _, _ => rfl
  | a :: b :: c :: l, _, h2 => simp at h2
theorem as16_eq {w : World} {A : Option Addr} {c n : Nat} {l : List Nat} (h : ToldV w A (kv .u16 l)) (hn : l.length = n) (hl : n ≤ 4096) (hb : ∀ x ∈ l, x < 65536) :
    Calls Tryz.prog 139 #[.slice A n c] w fun e w' => ∃ g, e = .returned (.slice (some ⟨g, 0, none⟩) n n) ∧ RowV w' g 3 (ints l) ∧ w.heap.size ≤ g ∧ Below w.heap.size w w' := by
  subst hn
  exact as_int_uint16 h hl hb
theorem as32_eq {w : World} {A : Option Addr} {c n : Nat} {l : List Nat} (h : ToldV w A (kv .u32 l)) (hn : l.length = n) (hl : n ≤ 4096) (hb : ∀ x ∈ l, x < 4294967296) :
    Calls Tryz.prog 137 #[.slice A n c] w fun e w' => ∃ g, e = .returned (.slice (some ⟨g, 0, none⟩) n n) ∧ RowV w' g 3 (ints l) ∧ w.heap.size ≤ g ∧ Below w.heap.size w w' := by
  subst hn
  exact as_int_uint32 h hl hb
/-- What a disk has of a super's pages. -/
structure Pages (D : Dsk.St) (s : Sup) (l1 l2 : List Nat) (W : List UInt16) : Prop where
  n : W.length = D.n
  hi : D.n ≤ 4096
  lo : 16 ≤ D.n
  len1 : l1.length = pg D.n
  len2 : l2.length = pg (pg D.n)
  root : ∀ j, j < 2 → nth s (2 + j) = l2.getD j 0
  dir : ∀ i, i < l2.length → 2 ≤ l2.getD i 0 ∧ l2.getD i 0 < D.n ∧ D.says (l2.getD i 0) = idxPage 4 (ptW (l1.map UInt16.ofNat) i)
  cnt : ∀ i, i < l1.length → 2 ≤ l1.getD i 0 ∧ l1.getD i 0 < D.n ∧ D.says (l1.getD i 0) = idxPage 5 (ptW W i)
def PagesOut (w : World) (l1 l2 : List Nat) (W : List UInt16) (e : Ending) (w' : World) : Prop := ∃ g1 g3 c3 g, e = .returned (.tuple #[.agg #[.slice (some ⟨g1, 0, none⟩) l1.length l1.length, .slice (some ⟨g3, 0, none⟩) l2.length c3], .slice (some ⟨g, 0, none⟩) W.length W.length, .int .i64 0]) ∧ RowV w' g1 3 (ints l1) ∧ (∃ sp, RowV w' g3 3 (ints l2 ++ sp)) ∧ RowV w' g 34 (nums W) ∧ w.heap.size ≤ g1 ∧ w.heap.size ≤ g3 ∧ w.heap.size ≤ g ∧ Below w.heap.size w w'
theorem tail2 (b k : Nat) (hk : k ≤ 2) : ∃ x : Nat, (∀ w, (Instr.slice 51 (.slice (some ⟨b, 0, none⟩) 2 2) (some (.int .i64 (k : Int))) none none).run Tryz.prog w = .ok (.slice (some ⟨b, x, none⟩) (2 - k) (2 - k)) w) ∧ (k < 2 → x = k) := by
  have ht : Tryz.prog.underlying 51 = some (.slice (Tryz.prog.elem 51)) := by
    simp [Program.elem, Tryz.underlying51]
  have he : Tryz.prog.elem 51 = 3 := by simp [Program.elem, Tryz.underlying51]
  have hz : ∀ w, (Go.sizeOf 3).run Tryz.prog w = .ok 1 w := fun _ => by kernel_rfl
  have key : ∀ w, (Instr.slice 51 (.slice (some ⟨b, 0, none⟩) 2 2) (some (.int .i64 (k : Int))) none none).run Tryz.prog w = .ok (.slice (if 2 = k then some ⟨b, 0, none⟩ else some ⟨b, 0 + k, none⟩) (2 - k) (2 - k)) w := fun w => by
    rw [run_slice_l w 51 _ 2 2 ht .i64 (k : Int) (by omega) (by omega), he, hz]
    simp only [Result.andThen, sliced, Int.toNat_natCast, Nat.mul_one, Option.map_some, add_plain]
  by_cases h : 2 = k
  · exact ⟨0, fun w => by rw [key, if_pos h], fun hk => by omega⟩
  · exact ⟨k, fun w => by rw [key, if_neg h, Nat.zero_add], fun _ => rfl⟩
theorem pg_small {n : Nat} (h1 : 16 ≤ n) (h2 : n ≤ 4096) : 1 ≤ pg n ∧ pg n ≤ 68 ∧ 1 ≤ pg (pg n) ∧ pg (pg n) ≤ 2 := by unfold pg; omega
set_option maxHeartbeats 4000000 in
theorem pagesOf_any {Pr : Nat → Prop} {w : World} {d : Nat} {D : Dsk.St} (hd : DIs Pr w d D) (hg : D.gone = false) {s : Sup} (hs : Su.Ok s) {l1 l2 : List Nat} {W : List UInt16} (hp : Pages D s l1 l2 W) :
    Calls Tryz.prog 75 #[.pointer (some ⟨d, 0, none⟩), .agg (scells s).toArray] w (PagesOut w l1 l2 W) := by
  have HD := Lib.hid hd
  have HP := Lib.hid hp
  have HOK := Lib.hid hs
  obtain ⟨n, hn⟩ : ∃ n, D.n = n := ⟨_, rfl⟩
  have HN := Lib.hid hn
  obtain ⟨p1, p2, p3, p4⟩ := pg_small hp.lo hp.hi
  rw [hn] at p1 p2 p3 p4
  have hn4 : n ≤ 4096 := by rw [← hn]; exact hp.hi
  have r3 := alloc_rowV w 69 (scells s)
  have b3 := (Below.refl w.heap.size w).alloc (Nat.le_refl _) (.cells (scells s).toArray 69)
  have hz := sheet_zero
  have hst := run_storeCells_new (P := Tryz.prog) w 69 #[(.int .u64 0), (.int .u32 0), (.int .u32 0), (.int .u32 0), (.int .u32 0), (.int .u32 0), (.int .u32 0), (.int .u32 0), (.int .u32 0), (.int .u32 0), (.int .u64 0), (.int .u64 0), (.int .u64 0), (.int .u64 0), (.int .u64 0), (.int .u64 0), (.int .u64 0), (.int .u64 0)] (scells s).toArray (Su.size_scells _) (by simp [Su.length_scells]) (Su.one_scells _)
  have hlc := Su.length_scells s
  clear hd hp hs hn
  go_enter Tryz.func75, Tryz.ntmps75
  go_upto_region 1 with (fail)
  clear hst hlc hz
  have r4 := alloc_rowV (w.alloc (.cells (scells s).toArray 69)) 65 [.slice none 0 0, .slice none 0 0]
  have b4 := (Below.refl (w.alloc (.cells (scells s).toArray 69)).heap.size _).alloc (Nat.le_refl _) (.cells #[.slice none 0 0, .slice none 0 0] 65)
  have s4 : (w.alloc (.cells (scells s).toArray 69)).heap.size = w.heap.size + 1 := by simp
  have HR3 := Lib.hid (r3.below r3.lt b4)
  rw [s4] at r4 b4
  have HR4 := Lib.hid r4
  have HB4 := Lib.hid (b3.trans (b4.mono (by omega)))
  obtain ⟨x3, hx3⟩ : ∃ x, x = w.heap.size := ⟨_, rfl⟩
  rw [← hx3] at HR3 HR4 ⊢
  have HX := Lib.hid hx3
  clear r3 b3 r4 b4 s4 hx3
  generalize (w.alloc (.cells (scells s).toArray 69)).alloc (.cells #[.slice none 0 0, .slice none 0 0] 65) = w2 at *
  have HT2 := Lib.hid (show ToldV w2 (some ⟨x3, 2, none⟩) (kv .u32 [nth s 2, nth s 3]) from .inr ⟨x3, 2, rfl, fun i hi => by
    have h := HR3.out.cellAt (Su.scells_at s (2 + i) (by simp [kv] at hi; omega))
    rw [h, Su.scell_small _ _ (by omega) (by simp [kv] at hi; omega)]
    rcases i with _ | _ | i
    · rfl
    · rfl
    · simp [kv] at hi; omega⟩)
  go_wp2_with fail
  refine (as32_eq (l := [nth s 2, nth s 3]) (n := 2) HT2.out rfl (by omega) (fun x hx => by
    simp only [List.mem_cons, List.not_mem_nil, or_false] at hx
    rcases hx with rfl | rfl
    · exact HOK.out.small 2 (by omega) (by omega)
    · exact HOK.out.small 3 (by omega) (by omega))).mono ?_
  rintro e w3 ⟨gd, rfl, rd, lod, kz⟩
  have HRD := Lib.hid rd
  have HR4' := Lib.hid (HR4.out.below HR4.out.lt kz)
  have HB3 := Lib.hid (HB4.out.trans (kz.mono HB4.out.size))
  have HLO := Lib.hid (show w.heap.size ≤ gd from Nat.le_trans HB4.out.size lod)
  clear rd lod kz HR4 HB4 HT2 HR3
  go_wp2_with fail
  have HLEN := Lib.hid (show ∀ wr, Below w.heap.size w wr → Calls Tryz.prog 20 #[.pointer (some ⟨d, 0, none⟩)] wr fun e w' => e = .returned (.int .i64 (n : Int)) ∧ wr = w' from fun wr k => by
    have h := Dsk.len_is (HD.out.below k).is
    rw [HN.out] at h
    exact h)
  refine (HLEN.out w3 HB3.out).mono ?_
  rintro e w' ⟨rfl, rfl⟩
  go_wp2_with fail
  refine (pages_eq n (by omega) _).mono ?_
  rintro e w' ⟨rfl, rfl⟩
  go_wp2_with fail
  refine (pages_eq (pg n) (by omega) _).mono ?_
  rintro e w' ⟨rfl, rfl⟩
  obtain ⟨q, hq⟩ : ∃ q, q = pg (pg n) := ⟨_, rfl⟩
  obtain ⟨m, hm⟩ : ∃ m, m = pg n := ⟨_, rfl⟩
  have HQ := Lib.hid (And.intro hq hm)
  rw [← hq] at p3 p4 ⊢
  rw [← hm] at p1 p2 ⊢
  clear hq hm
  obtain ⟨x, hsl, hxq⟩ := tail2 gd q p4
  have HXQ := Lib.hid hxq
  clear hxq
  obtain ⟨zl, hz⟩ : ∃ zl, zl = 2 - q := ⟨_, rfl⟩
  rw [← hz] at hsl
  have HZ := Lib.hid hz
  have hz2 : zl ≤ 1 := by omega
  clear hz
  go_wp2_with fail
  go_loopw [28] (fun i wr => ∃ k : Nat, k ≤ zl ∧ i = .int .i64 (k : Int) ∧ Hid (wr = w3)) (fun i _ => zl - (Go.RowKit.intOf i).toNat)
  case atStart => exact ⟨0, Nat.zero_le _, rfl, Lib.hid rfl⟩
  case round =>
    obtain ⟨k, hk, rfl, HE⟩ := hrel
    obtain rfl := HE.out
    clear HE
    by_cases hlt : k < zl
    · have hki : (k : Int) < (zl : Int) := by omega
      have hge : (0 : Int) ≤ (k : Int) := by omega
      have hcx := HRD.out.cellAt (show (ints [nth s 2, nth s 3])[1]? = some (.int .i64 (nth s 3 : Int)) from rfl)
      have hq1 : q = 1 := by have := HZ.out; omega
      have hx1 : x = 1 := by rw [HXQ.out (by omega), hq1]
      have hk1 : k = 0 := by omega
      have h30 : nth s 3 = 0 := by
        have h1 := HP.out.root 1 (by omega)
        have h2 := HP.out.len2
        rw [HN.out, ← HQ.out.1, hq1] at h2
        rw [show 2 + 1 = 3 from rfl] at h1
        rw [h1, List.getD_eq_getElem?_getD, List.getElem?_eq_none (by omega)]
        rfl
      subst hk1
      rw [h30] at hcx
      replace hcx : wr.cell? ⟨gd, 1, none⟩ = some (.int .i64 0) := hcx
      subst hx1
      clear h30 hq1
      go_wp2_with fail
      go_roundw
      case rel => exact ⟨1, by omega, by go_num, by first | exact Lib.hid rfl | exact Lib.hid trivial⟩
      case measure => simp [Go.RowKit.intOf]; omega
    · have hki : ¬ (k : Int) < (zl : Int) := by omega
      have hq0 : (0 : Int) ≤ (q : Int) := by omega
      have hq2 : (q : Int) ≤ 2 := by omega
      clear hsl hlt hk
      have HT3 := Lib.hid (show ToldV wr (some ⟨gd, 0, none⟩) (ints l2) from .inr ⟨gd, 0, rfl, fun i hi => by
        have hi2 : i < l2.length := by simpa [ints] using hi
        have h2 := HP.out.len2
        rw [HN.out, ← HQ.out.1] at h2
        have hr := HP.out.root i (by omega)
        have h : wr.cell? ⟨gd, 0 + i, none⟩ = some (.int .i64 (nth s (2 + i) : Int)) := by
          rw [Nat.zero_add]
          refine HRD.out.cellAt ?_
          rcases (show i = 0 ∨ i = 1 by omega) with rfl | rfl
          · rfl
          · rfl
        rw [h, hr]
        simp [ints, hi2]⟩)
      go_wp2_with fail
      refine (row4 (HD.out.below HB3.out) hg HN.out HT3.out (W := l1.map UInt16.ofNat) (n := m) ?e1 (by omega) (q := q) ?e2 ?e3 ?e4).mono ?_
      case e1 => rw [List.length_map, HP.out.len1, HN.out, HQ.out.2]
      case e2 => rw [HP.out.len2, HN.out, HQ.out.1]
      case e3 => rw [HQ.out.1, HQ.out.2]
      case e4 =>
        intro i hi
        have h := HP.out.dir i hi
        rw [HN.out] at h
        exact h
      rintro e w4 ⟨ga, rfl, ra, loa, kz⟩
      have HLQ := Lib.hid (show l1.length = m ∧ l2.length = q ∧ (∀ x ∈ l1, x < 65536) from ⟨by rw [HP.out.len1, HN.out, HQ.out.2], by rw [HP.out.len2, HN.out, HQ.out.1], fun x hx => by
        obtain ⟨i, hi, rfl⟩ := List.mem_iff_getElem.1 hx
        have h := (HP.out.cnt i hi).2.1
        rw [List.getD_eq_getElem?_getD, List.getElem?_eq_getElem hi, HN.out] at h
        have h' : l1[i] < n := h
        omega⟩)
      have HRA := Lib.hid (show ToldV w4 (some ⟨ga, 0, none⟩) (kv .u16 l1) by
        have e : nums (l1.map UInt16.ofNat) = kv .u16 l1 := by
          rw [← kv_nums, List.map_map]
          congr 1
          conv => rhs; rw [← List.map_id l1]
          refine List.map_congr_left fun x hx => ?_
          have := HLQ.out.2.2 x hx
          simp
          omega
        rw [← e]
        exact ra.has.told)
      have HR4 := Lib.hid (HR4'.out.below HR4'.out.lt kz)
      have HRD4 := Lib.hid (HRD.out.below HRD.out.lt kz)
      have HB4 := Lib.hid (HB3.out.trans (kz.mono HB3.out.size))
      have HT4 := Lib.hid (HT3.out.below kz)
      clear ra loa kz HR4' HRD HB3 HT3
      go_upto_region 13 with (fail)
      have hz := sheet_zero

      refine Inv2.wp_region_inv (fun b a wy => ∃ (z : Nat → Value) (z14 : Value) (z50 : Value) (z54 : Value), a = ⟨(List.toArray (Value.pointer (some ⟨d, 0, none⟩) :: Value.agg (Su.scells s).toArray :: undef :: Value.pointer (some ⟨x3, 0, none⟩) :: Value.pointer (some ⟨x3 + 1, 0, none⟩) :: u5 :: u6 :: Value.slice (some ⟨gd, 0, none⟩) 2 2 :: Value.int IntKind.i64 ↑m :: Value.int IntKind.i64 ↑q :: undef :: u11 :: Value.slice (some ⟨ga, 0, none⟩) m m :: Value.int IntKind.i64 0 :: z14 :: undef :: Value.pointer (some ⟨x3, 2, none⟩) :: Value.slice (some ⟨x3, 2, none⟩) 2 8 :: Value.slice (some ⟨gd, 0, none⟩) 2 2 :: Value.pointer (some ⟨d, 0, none⟩) :: Value.int IntKind.i64 ↑n :: Value.int IntKind.i64 ↑m :: Value.int IntKind.i64 ↑m :: Value.int IntKind.i64 ↑q :: Value.slice (some ⟨gd, 0, none⟩) 2 2 :: Value.int IntKind.i64 ↑q :: Value.slice (some ⟨gd, x, none⟩) zl zl :: Value.int IntKind.i64 ↑zl :: Value.int IntKind.i64 ↑k :: Value.bool false :: u30 :: u31 :: u32 :: u33 :: u34 :: u35 :: Value.tuple #[Value.slice (some ⟨ga, 0, none⟩) m m, Value.int IntKind.i64 0] :: Value.pointer (some ⟨d, 0, none⟩) :: Value.slice (some ⟨gd, 0, none⟩) 2 2 :: Value.int IntKind.i64 ↑q :: Value.slice (some ⟨gd, 0, none⟩) q 2 :: Value.int IntKind.i64 ↑m :: Value.tuple #[Value.slice (some ⟨ga, 0, none⟩) m m, Value.int IntKind.i64 0] :: Value.slice (some ⟨ga, 0, none⟩) m m :: Value.int IntKind.i64 0 :: Value.int IntKind.i64 0 :: Value.bool false :: undef :: undef :: (z 49) :: z50 :: (z 51) :: (z 52) :: (z 53) :: z54 :: undef :: undef :: undef :: undef :: undef :: undef :: undef :: undef :: undef :: undef :: undef :: undef :: undef :: undef :: undef :: [])), []⟩ ∧ Hid ((b 0 = true → (z 49) = Value.slice (some ⟨ga, 0, none⟩) m m) ∧ (b 2 = true → (z 51) = Value.slice (some ⟨gd, 0, none⟩) 2 2) ∧ (b 3 = true → (z 52) = Value.int IntKind.i64 ↑q) ∧ (b 4 = true → (z 53) = .slice (some ⟨gd, 0, none⟩) q 2)) ∧ Hid (Below w4.heap.size w4 wy) ∧ Hid (∃ g1 r, (b 1 = true → z50 = .slice (some ⟨g1, 0, none⟩) m m ∧ w4.heap.size ≤ g1 ∧ RowV wy g1 3 (ints l1)) ∧ (b 5 = true → z54 = .agg #[.slice (some ⟨g1, 0, none⟩) m m, .slice (some ⟨gd, 0, none⟩) q 2] ∧ b 1 = true) ∧ (b 6 = true → z14 = .pointer (some ⟨r, 0, none⟩) ∧ w4.heap.size ≤ r) ∧ (b 6 = true → b 7 = false → RowV wy r 65 [.slice none 0 0, .slice none 0 0]) ∧ (b 7 = true → b 5 = true ∧ b 6 = true ∧ RowV wy r 65 [.slice (some ⟨g1, 0, none⟩) m m, .slice (some ⟨gd, 0, none⟩) q 2]))) (by kernel_rfl) (by kernel_rfl) ?startP ?stepsP ?doneP
      case startP =>
        intro b hb
        refine ⟨fun s => undef, undef, undef, undef, rfl, Lib.hid ⟨?_, ?_, ?_, ?_⟩, Lib.hid ((show Still w4 w4.drew from ⟨rfl, rfl, rfl, rfl⟩).below _), Lib.hid (⟨0, 0, (fun e => by rw [hb _ (by decide)] at e; cases e), (fun e => by rw [hb _ (by decide)] at e; cases e), (fun e => by rw [hb _ (by decide)] at e; cases e), (fun e => by rw [hb _ (by decide)] at e; cases e), (fun e => by rw [hb _ (by decide)] at e; cases e)⟩)⟩
        all_goals (intro e; first | rfl | (rw [hb _ (by decide)] at e; cases e))
      case stepsP =>
        refine ⟨?_, ?_, ?_, ?_, ?_, ?_, ?_, ?_, trivial⟩
        · rintro b a wy hb hd ⟨z, z14, z50, z54, rfl, HV, HW, HX⟩ K hK
          clear hd
          go_simp
          have V := HV.out
          exact hK _ _ ⟨fun s => if s = 49 then Value.slice (some ⟨ga, 0, none⟩) m m else z s, _, _, _, rfl, Lib.hid ⟨fun _ => rfl, V.2.1, V.2.2.1, V.2.2.2⟩, HW, HX⟩
        · rintro b a wy hb hd ⟨z, z14, z50, z54, rfl, HV, HW, HX⟩ K hK
          simp [Region.binds] at hd
          have e0 : (z 49) = Value.slice (some ⟨ga, 0, none⟩) m m := (HV.out.1) (by simp [hd])
          clear hd
          obtain ⟨g1, r, x1, x2, x3, x4, x5⟩ := HX.out
          go_simp
          go_at_call 139
          refine (as16_eq (l := l1) (n := m) (HRA.out.below HW.out) HLQ.out.1 (by omega) HLQ.out.2.2).mono ?_
          rintro e wz ⟨g, rfl, hg, hlo, kz⟩
          try go_simp
          have V := HV.out
          exact hK _ _ ⟨fun s => if s = 49 then Value.slice (some ⟨ga, 0, none⟩) m m else z s, _, _, _, rfl, Lib.hid ⟨fun _ => rfl, V.2.1, V.2.2.1, V.2.2.2⟩, Lib.hid (HW.out.trans (kz.mono HW.out.size)), Lib.hid ⟨g, r, fun _ => ⟨rfl, Nat.le_trans HW.out.size hlo, hg⟩, fun e => absurd (hb.symm.trans (x2 e).2) (by decide), x3, fun e f => (x4 e f).below (x4 e f).lt kz, fun e => absurd (hb.symm.trans (x2 (x5 e).1).2) (by decide)⟩⟩
        · rintro b a wy hb hd ⟨z, z14, z50, z54, rfl, HV, HW, HX⟩ K hK
          clear hd
          go_simp
          have V := HV.out
          exact hK _ _ ⟨fun s => if s = 51 then Value.slice (some ⟨gd, 0, none⟩) 2 2 else z s, _, _, _, rfl, Lib.hid ⟨V.1, fun _ => rfl, V.2.2.1, V.2.2.2⟩, HW, HX⟩
        · rintro b a wy hb hd ⟨z, z14, z50, z54, rfl, HV, HW, HX⟩ K hK
          clear hd
          go_simp
          have V := HV.out
          exact hK _ _ ⟨fun s => if s = 52 then Value.int IntKind.i64 ↑q else z s, _, _, _, rfl, Lib.hid ⟨V.1, V.2.1, fun _ => rfl, V.2.2.2⟩, HW, HX⟩
        · rintro b a wy hb hd ⟨z, z14, z50, z54, rfl, HV, HW, HX⟩ K hK
          simp [Region.binds] at hd
          have e2 : (z 51) = Value.slice (some ⟨gd, 0, none⟩) 2 2 := (HV.out.2.1) (by simp [hd])
          have e3 : (z 52) = Value.int IntKind.i64 ↑q := (HV.out.2.2.1) (by simp [hd])
          clear hd
          go_simp
          have V := HV.out
          exact hK _ _ ⟨fun s => if s = 53 then .slice (some ⟨gd, 0, none⟩) q 2 else if s = 51 then Value.slice (some ⟨gd, 0, none⟩) 2 2 else if s = 52 then Value.int IntKind.i64 ↑q else z s, _, _, _, rfl, Lib.hid ⟨V.1, fun _ => rfl, fun _ => rfl, fun _ => rfl⟩, HW, HX⟩
        · rintro b a wy hb hd ⟨z, z14, z50, z54, rfl, HV, HW, HX⟩ K hK
          simp [Region.binds] at hd
          have dd1 : b 1 = true := by simp [hd]
          have e4 : (z 53) = .slice (some ⟨gd, 0, none⟩) q 2 := (HV.out.2.2.2) (by simp [hd])
          clear hd
          obtain ⟨g1, r, x1, x2, x3, x4, x5⟩ := HX.out
          obtain ⟨zz, y1, y2⟩ := x1 dd1
          subst zz
          go_simp
          have V := HV.out
          exact hK _ _ ⟨fun s => if s = 53 then .slice (some ⟨gd, 0, none⟩) q 2 else z s, _, _, _, rfl, Lib.hid ⟨V.1, V.2.1, V.2.2.1, fun _ => rfl⟩, HW, Lib.hid ⟨g1, r, fun _ => ⟨rfl, y1, y2⟩, fun _ => ⟨rfl, dd1⟩, x3, x4, fun e => absurd (hb.symm.trans (x5 e).1) (by decide)⟩⟩
        · rintro b a wy hb hd ⟨z, z14, z50, z54, rfl, HV, HW, HX⟩ K hK
          clear hd
          obtain ⟨g1, r, x1, x2, x3, x4, x5⟩ := HX.out
          go_simp
          have B2 := (Below.refl wy.heap.size wy).alloc (Nat.le_refl _) (.cells #[.slice none 0 0, .slice none 0 0] 65)
          have R2 := alloc_rowV wy 65 [.slice none 0 0, .slice none 0 0]
          have V := HV.out
          exact hK _ _ ⟨fun s => z s, _, _, _, rfl, Lib.hid ⟨V.1, V.2.1, V.2.2.1, V.2.2.2⟩, Lib.hid (HW.out.trans (B2.mono HW.out.size)), Lib.hid ⟨g1, wy.heap.size, fun e => ⟨(x1 e).1, (x1 e).2.1, (x1 e).2.2.below (x1 e).2.2.lt B2⟩, x2, fun _ => ⟨rfl, HW.out.size⟩, fun _ _ => R2, fun e => absurd (hb.symm.trans (x5 e).2.1) (by decide)⟩⟩
        · rintro b a wy hb hd ⟨z, z14, z50, z54, rfl, HV, HW, HX⟩ K hK
          simp [Region.binds] at hd
          have dd6 : b 6 = true := by simp [hd]
          have dd5 : b 5 = true := by simp [hd]
          clear hd
          obtain ⟨g1, r, x1, x2, x3, x4, x5⟩ := HX.out
          obtain ⟨zz, d1⟩ := x2 dd5
          subst zz
          obtain ⟨zz, y1, y2⟩ := x1 d1
          subst zz
          obtain ⟨zz, y3⟩ := x3 dd6
          subst zz
          have hr := x4 dd6 hb
          have q0 := hr.cellAt (i := 0) rfl
          have q1 := hr.cellAt (i := 1) rfl
          have f0 := hr.free 0
          have f1 := hr.free 1
          have HA3 := Lib.hid ((hr.set 0 (.slice (some ⟨g1, 0, none⟩) m m)).set 1 (.slice (some ⟨gd, 0, none⟩) q 2))
          have HU := Lib.hid ((ButL.set wy r 0 (.slice (some ⟨g1, 0, none⟩) m m)).trans (ButL.set _ r 1 (.slice (some ⟨gd, 0, none⟩) q 2)))
          have HY2 := Lib.hid (y2.block (HU.out.block _ y2.lt (by simp; exact row_ne y2 hr (by decide))))
          have HY1 := Lib.hid (And.intro y1 y3)
          have HDD := Lib.hid (And.intro d1 (And.intro dd5 dd6))
          clear x1 x2 x3 x4 x5 y1 y2 y3 hr d1 dd5 dd6 HX
          go_simp
          have HW7 := Lib.hid (HW.out.trans (HU.out.below (B := w4.heap.size) (by simp; exact HY1.out.2) HW.out.size))
          have V := HV.out
          exact hK _ _ ⟨fun s => z s, _, _, _, rfl, Lib.hid ⟨V.1, V.2.1, V.2.2.1, V.2.2.2⟩, HW7, Lib.hid ⟨g1, r, fun _ => ⟨rfl, HY1.out.1, HY2.out⟩, fun _ => ⟨rfl, HDD.out.1⟩, fun _ => ⟨rfl, HY1.out.2⟩, fun _ e => (by cases e), fun _ => ⟨HDD.out.2.1, HDD.out.2.2, HA3.out⟩⟩⟩
      case doneP =>
        rintro b a wy hb ⟨z, z14, z50, z54, rfl, HV, HW, HX⟩
        have e0 := (HV.out.1) (hb 0)
        have e2 := (HV.out.2.1) (hb 2)
        have e3 := (HV.out.2.2.1) (hb 3)
        have e4 := (HV.out.2.2.2) (hb 4)
        simp only [e0, e2, e3, e4]
        clear HV e0 e2 e3 e4
        obtain ⟨g1, r, x1, x2, x3, _, x5⟩ := HX.out
        obtain ⟨zz, _⟩ := x2 (hb 5)
        subst zz
        obtain ⟨zz, y1, y2⟩ := x1 (hb 1)
        subst zz
        obtain ⟨zz, y3⟩ := x3 (hb 6)
        subst zz
        have HR5 := Lib.hid (x5 (hb 7)).2.2
        have HY := Lib.hid (And.intro y1 (And.intro y2 y3))
        clear x1 x2 x3 x5 y1 y2 y3 hb HX
        have HB5 := Lib.hid (HB4.out.trans (HW.out.mono HB4.out.size))
        have HX4 := Lib.hid (HR4.out.below HR4.out.lt HW.out)
        have HRD5 := Lib.hid (HRD4.out.below HRD4.out.lt HW.out)
        have HT5 := Lib.hid (HT4.out.below HW.out)
        have HS5 := Lib.hid (show w.heap.size ≤ w4.heap.size from HB4.out.size)
        clear HW HR4 HRD4 HB4 HT4 hz
        obtain ⟨w5, hw5⟩ : ∃ x, x = wy := ⟨_, rfl⟩
        subst hw5
        obtain ⟨x4, hx4⟩ : ∃ x, x = x3 + 1 := ⟨_, rfl⟩
        rw [← hx4] at HX4 ⊢
        have HXX := Lib.hid hx4
        clear hx4
        go_upto_region 14 with (fail)

        have HE := Lib.hid (show W.length = n ∧ m = pg n ∧ (∀ i, i < l1.length → 2 ≤ l1.getD i 0 ∧ l1.getD i 0 < n ∧ D.says (l1.getD i 0) = idxPage 5 (ptW W i)) from ⟨by rw [HP.out.n, HN.out], HQ.out.2, fun i hi => by
          have h := HP.out.cnt i hi
          rw [HN.out] at h
          exact h⟩)

        refine Inv2.wp_region_inv (fun b a wy => ∃ (z : Nat → Value) (z15 : Value) (z55 : Value) (z61 : Value) (z62 : Value), a = ⟨(List.toArray (Value.pointer (some ⟨d, 0, none⟩) :: Value.agg (Su.scells s).toArray :: undef :: Value.pointer (some ⟨x3, 0, none⟩) :: Value.pointer (some ⟨x4, 0, none⟩) :: u5 :: u6 :: Value.slice (some ⟨gd, 0, none⟩) 2 2 :: Value.int IntKind.i64 ↑m :: Value.int IntKind.i64 ↑q :: undef :: u11 :: Value.slice (some ⟨ga, 0, none⟩) m m :: (z 13) :: Value.pointer (some ⟨r, 0, none⟩) :: z15 :: Value.pointer (some ⟨x3, 2, none⟩) :: Value.slice (some ⟨x3, 2, none⟩) 2 8 :: Value.slice (some ⟨gd, 0, none⟩) 2 2 :: Value.pointer (some ⟨d, 0, none⟩) :: Value.int IntKind.i64 ↑n :: Value.int IntKind.i64 ↑m :: Value.int IntKind.i64 ↑m :: Value.int IntKind.i64 ↑q :: Value.slice (some ⟨gd, 0, none⟩) 2 2 :: Value.int IntKind.i64 ↑q :: Value.slice (some ⟨gd, x, none⟩) zl zl :: Value.int IntKind.i64 ↑zl :: Value.int IntKind.i64 ↑k :: Value.bool false :: u30 :: u31 :: u32 :: u33 :: u34 :: u35 :: Value.tuple #[Value.slice (some ⟨ga, 0, none⟩) m m, Value.int IntKind.i64 0] :: Value.pointer (some ⟨d, 0, none⟩) :: Value.slice (some ⟨gd, 0, none⟩) 2 2 :: Value.int IntKind.i64 ↑q :: Value.slice (some ⟨gd, 0, none⟩) q 2 :: Value.int IntKind.i64 ↑m :: Value.tuple #[Value.slice (some ⟨ga, 0, none⟩) m m, Value.int IntKind.i64 0] :: Value.slice (some ⟨ga, 0, none⟩) m m :: Value.int IntKind.i64 0 :: Value.int IntKind.i64 0 :: Value.bool false :: undef :: undef :: Value.slice (some ⟨ga, 0, none⟩) m m :: Value.slice (some ⟨g1, 0, none⟩) m m :: Value.slice (some ⟨gd, 0, none⟩) 2 2 :: Value.int IntKind.i64 ↑q :: Value.slice (some ⟨gd, 0, none⟩) q 2 :: Value.agg #[Value.slice (some ⟨g1, 0, none⟩) m m, Value.slice (some ⟨gd, 0, none⟩) q 2] :: z55 :: (z 56) :: (z 57) :: (z 58) :: (z 59) :: (z 60) :: z61 :: z62 :: (z 63) :: undef :: undef :: undef :: undef :: undef :: undef :: [])), []⟩ ∧ Hid ((b 0 = true → (z 56) = Value.pointer (some ⟨d, 0, none⟩)) ∧ (b 1 = true → (z 57) = .pointer (some ⟨r, 0, none⟩)) ∧ (b 2 = true → (z 58) = .slice (some ⟨g1, 0, none⟩) m m) ∧ (b 3 = true → (z 59) = Value.pointer (some ⟨d, 0, none⟩)) ∧ (b 4 = true → (z 60) = .int .i64 (n : Int)) ∧ (b 8 = true → (z 63) = .int .i64 0) ∧ (b 10 = true → (z 13) = .int .i64 0)) ∧ Hid (Below w5.heap.size w5 wy) ∧ Hid (∃ g, (b 5 = true → z61 = .tuple #[.slice (some ⟨g, 0, none⟩) n n, .int .i64 0] ∧ w5.heap.size ≤ g ∧ RowV wy g 34 (nums W)) ∧ (b 6 = true → z55 = .tuple #[.slice (some ⟨g, 0, none⟩) n n, .int .i64 0] ∧ b 5 = true) ∧ (b 7 = true → z62 = .slice (some ⟨g, 0, none⟩) n n ∧ b 6 = true) ∧ (b 9 = true → z15 = .slice (some ⟨g, 0, none⟩) n n ∧ b 7 = true))) (by kernel_rfl) (by kernel_rfl) ?startR ?stepsR ?doneR
        case startR =>
          intro b hb
          refine ⟨fun s => if s = 13 then Value.int IntKind.i64 0 else undef, undef, undef, undef, undef, rfl, Lib.hid ⟨?_, ?_, ?_, ?_, ?_, ?_, ?_⟩, Lib.hid ((show Still w5 w5.drew from ⟨rfl, rfl, rfl, rfl⟩).below _), Lib.hid (⟨0, (fun e => by rw [hb _ (by decide)] at e; cases e), (fun e => by rw [hb _ (by decide)] at e; cases e), (fun e => by rw [hb _ (by decide)] at e; cases e), (fun e => by rw [hb _ (by decide)] at e; cases e)⟩)⟩
          all_goals (intro e; first | rfl | (rw [hb _ (by decide)] at e; cases e))
        case stepsR =>
          refine ⟨?_, ?_, ?_, ?_, ?_, ?_, ?_, ?_, ?_, ?_, ?_, trivial⟩
          · rintro b a wy hb hd ⟨z, z15, z55, z61, z62, rfl, HV, HW, HX⟩ K hK
            clear hd
            go_simp
            have V := HV.out
            exact hK _ _ ⟨fun s => if s = 56 then Value.pointer (some ⟨d, 0, none⟩) else z s, _, _, _, _, rfl, Lib.hid ⟨fun _ => rfl, V.2.1, V.2.2.1, V.2.2.2.1, V.2.2.2.2.1, V.2.2.2.2.2.1, V.2.2.2.2.2.2⟩, HW, HX⟩
          · rintro b a wy hb hd ⟨z, z15, z55, z61, z62, rfl, HV, HW, HX⟩ K hK
            clear hd
            go_simp
            have V := HV.out
            exact hK _ _ ⟨fun s => if s = 57 then .pointer (some ⟨r, 0, none⟩) else z s, _, _, _, _, rfl, Lib.hid ⟨V.1, fun _ => rfl, V.2.2.1, V.2.2.2.1, V.2.2.2.2.1, V.2.2.2.2.2.1, V.2.2.2.2.2.2⟩, HW, HX⟩
          · rintro b a wy hb hd ⟨z, z15, z55, z61, z62, rfl, HV, HW, HX⟩ K hK
            simp [Region.binds] at hd
            have e1 : (z 57) = .pointer (some ⟨r, 0, none⟩) := (HV.out.2.1) (by simp [hd])
            clear hd
            have cc : wy.cell? ⟨r, 0, none⟩ = some (.slice (some ⟨g1, 0, none⟩) m m) := (HR5.out.below HR5.out.lt HW.out).cellAt (i := 0) rfl
            go_simp
            have V := HV.out
            exact hK _ _ ⟨fun s => if s = 58 then .slice (some ⟨g1, 0, none⟩) m m else if s = 57 then .pointer (some ⟨r, 0, none⟩) else z s, _, _, _, _, rfl, Lib.hid ⟨V.1, fun _ => rfl, fun _ => rfl, V.2.2.2.1, V.2.2.2.2.1, V.2.2.2.2.2.1, V.2.2.2.2.2.2⟩, HW, HX⟩
          · rintro b a wy hb hd ⟨z, z15, z55, z61, z62, rfl, HV, HW, HX⟩ K hK
            clear hd
            go_simp
            have V := HV.out
            exact hK _ _ ⟨fun s => if s = 59 then Value.pointer (some ⟨d, 0, none⟩) else z s, _, _, _, _, rfl, Lib.hid ⟨V.1, V.2.1, V.2.2.1, fun _ => rfl, V.2.2.2.2.1, V.2.2.2.2.2.1, V.2.2.2.2.2.2⟩, HW, HX⟩
          · rintro b a wy hb hd ⟨z, z15, z55, z61, z62, rfl, HV, HW, HX⟩ K hK
            simp [Region.binds] at hd
            have e3 : (z 59) = Value.pointer (some ⟨d, 0, none⟩) := (HV.out.2.2.2.1) (by simp [hd])
            clear hd
            go_simp
            go_at_call 20
            refine (HLEN.out wy (HB5.out.trans (HW.out.mono HB5.out.size))).mono ?_
            rintro e wz ⟨rfl, rfl⟩
            try go_simp
            have V := HV.out
            exact hK _ _ ⟨fun s => if s = 60 then .int .i64 (n : Int) else if s = 59 then Value.pointer (some ⟨d, 0, none⟩) else z s, _, _, _, _, rfl, Lib.hid ⟨V.1, V.2.1, V.2.2.1, fun _ => rfl, fun _ => rfl, V.2.2.2.2.2.1, V.2.2.2.2.2.2⟩, HW, HX⟩
          · rintro b a wy hb hd ⟨z, z15, z55, z61, z62, rfl, HV, HW, HX⟩ K hK
            simp [Region.binds] at hd
            have e0 : (z 56) = Value.pointer (some ⟨d, 0, none⟩) := (HV.out.1) (by simp [hd])
            have e2 : (z 58) = .slice (some ⟨g1, 0, none⟩) m m := (HV.out.2.2.1) (by simp [hd])
            have e4 : (z 60) = .int .i64 (n : Int) := (HV.out.2.2.2.2.1) (by simp [hd])
            clear hd
            obtain ⟨g, x1, x2, x3', x4'⟩ := HX.out
            go_simp
            go_at_call 138
            refine (row5 (HD.out.below (HB5.out.trans (HW.out.mono HB5.out.size))) hg HN.out ((HY.out.2.1.below HY.out.2.1.lt HW.out).has.told) (W := W) (n := n) (q := m) HE.out.1 hn4 HLQ.out.1 HE.out.2.1 HE.out.2.2).mono ?_
            rintro e wz ⟨g', rfl, hg', hlo, kz⟩
            try go_simp
            have V := HV.out
            exact hK _ _ ⟨fun s => if s = 56 then Value.pointer (some ⟨d, 0, none⟩) else if s = 58 then .slice (some ⟨g1, 0, none⟩) m m else if s = 60 then .int .i64 (n : Int) else z s, _, _, _, _, rfl, Lib.hid ⟨fun _ => rfl, V.2.1, fun _ => rfl, V.2.2.2.1, fun _ => rfl, V.2.2.2.2.2.1, V.2.2.2.2.2.2⟩, Lib.hid (HW.out.trans (kz.mono HW.out.size)), Lib.hid ⟨g', fun _ => ⟨rfl, Nat.le_trans HW.out.size hlo, hg'⟩, fun e => absurd (hb.symm.trans (x2 e).2) (by decide), fun e => absurd (hb.symm.trans (x2 (x3' e).2).2) (by decide), fun e => absurd (hb.symm.trans (x2 (x3' (x4' e).2).2).2) (by decide)⟩⟩
          · rintro b a wy hb hd ⟨z, z15, z55, z61, z62, rfl, HV, HW, HX⟩ K hK
            simp [Region.binds] at hd
            have dd5 : b 5 = true := by simp [hd]
            clear hd
            obtain ⟨g, x1, x2, x3', x4'⟩ := HX.out
            obtain ⟨zz, y1⟩ := x1 dd5
            subst zz
            go_simp
            have V := HV.out
            exact hK _ _ ⟨fun s => z s, _, _, _, _, rfl, Lib.hid ⟨V.1, V.2.1, V.2.2.1, V.2.2.2.1, V.2.2.2.2.1, V.2.2.2.2.2.1, V.2.2.2.2.2.2⟩, HW, Lib.hid ⟨g, fun _ => ⟨rfl, y1⟩, fun _ => ⟨rfl, dd5⟩, fun e => absurd (hb.symm.trans (x3' e).2) (by decide), fun e => absurd (hb.symm.trans (x3' (x4' e).2).2) (by decide)⟩⟩
          · rintro b a wy hb hd ⟨z, z15, z55, z61, z62, rfl, HV, HW, HX⟩ K hK
            simp [Region.binds] at hd
            have dd6 : b 6 = true := by simp [hd]
            clear hd
            obtain ⟨g, x1, x2, x3', x4'⟩ := HX.out
            obtain ⟨zz, y1⟩ := x2 dd6
            subst zz
            obtain ⟨zz, y2⟩ := x1 y1
            subst zz
            have HYY := Lib.hid (And.intro y1 (And.intro y2 x4'))
            clear x1 x2 x3' x4' y1 y2 HX
            go_simp
            have V := HV.out
            exact hK _ _ ⟨fun s => z s, _, _, _, _, rfl, Lib.hid ⟨V.1, V.2.1, V.2.2.1, V.2.2.2.1, V.2.2.2.2.1, V.2.2.2.2.2.1, V.2.2.2.2.2.2⟩, HW, Lib.hid ⟨g, fun _ => ⟨rfl, HYY.out.2.1⟩, fun _ => ⟨rfl, HYY.out.1⟩, fun _ => ⟨rfl, dd6⟩, fun e => absurd (hb.symm.trans (HYY.out.2.2 e).2) (by decide)⟩⟩
          · rintro b a wy hb hd ⟨z, z15, z55, z61, z62, rfl, HV, HW, HX⟩ K hK
            simp [Region.binds] at hd
            have dd6 : b 6 = true := by simp [hd]
            clear hd
            obtain ⟨g, x1, x2, x3', x4'⟩ := HX.out
            obtain ⟨zz, y1⟩ := x2 dd6
            subst zz
            obtain ⟨zz, y2⟩ := x1 y1
            subst zz
            have HYY := Lib.hid (And.intro y1 (And.intro y2 (And.intro x3' x4')))
            clear x1 x2 x3' x4' y1 y2 HX
            go_simp
            have V := HV.out
            exact hK _ _ ⟨fun s => if s = 63 then .int .i64 0 else z s, _, _, _, _, rfl, Lib.hid ⟨V.1, V.2.1, V.2.2.1, V.2.2.2.1, V.2.2.2.2.1, fun _ => rfl, V.2.2.2.2.2.2⟩, HW, Lib.hid ⟨g, fun _ => ⟨rfl, HYY.out.2.1⟩, fun _ => ⟨rfl, HYY.out.1⟩, HYY.out.2.2.1, HYY.out.2.2.2⟩⟩
          · rintro b a wy hb hd ⟨z, z15, z55, z61, z62, rfl, HV, HW, HX⟩ K hK
            simp [Region.binds] at hd
            have dd7 : b 7 = true := by simp [hd]
            clear hd
            obtain ⟨g, x1, x2, x3', x4'⟩ := HX.out
            obtain ⟨zz, dd6⟩ := x3' dd7
            subst zz
            obtain ⟨zz, y1⟩ := x2 dd6
            subst zz
            obtain ⟨zz, y2⟩ := x1 y1
            subst zz
            have HYY := Lib.hid (And.intro y1 (And.intro y2 dd6))
            clear x1 x2 x3' x4' y1 y2 dd6 HX
            go_simp
            have V := HV.out
            exact hK _ _ ⟨fun s => z s, _, _, _, _, rfl, Lib.hid ⟨V.1, V.2.1, V.2.2.1, V.2.2.2.1, V.2.2.2.2.1, V.2.2.2.2.2.1, V.2.2.2.2.2.2⟩, HW, Lib.hid ⟨g, fun _ => ⟨rfl, HYY.out.2.1⟩, fun _ => ⟨rfl, HYY.out.1⟩, fun _ => ⟨rfl, HYY.out.2.2⟩, fun _ => ⟨rfl, dd7⟩⟩⟩
          · rintro b a wy hb hd ⟨z, z15, z55, z61, z62, rfl, HV, HW, HX⟩ K hK
            simp [Region.binds] at hd
            have e8 : (z 63) = .int .i64 0 := (HV.out.2.2.2.2.2.1) (by simp [hd])
            clear hd
            go_simp
            have V := HV.out
            exact hK _ _ ⟨fun s => if s = 13 then .int .i64 0 else if s = 63 then .int .i64 0 else z s, _, _, _, _, rfl, Lib.hid ⟨V.1, V.2.1, V.2.2.1, V.2.2.2.1, V.2.2.2.2.1, fun _ => rfl, fun _ => rfl⟩, HW, HX⟩
        case doneR =>
          rintro b a wy hb ⟨z, z15, z55, z61, z62, rfl, HV, HW, HX⟩
          have e0 := (HV.out.1) (hb 0)
          have e1 := (HV.out.2.1) (hb 1)
          have e2 := (HV.out.2.2.1) (hb 2)
          have e3 := (HV.out.2.2.2.1) (hb 3)
          have e4 := (HV.out.2.2.2.2.1) (hb 4)
          have e8 := (HV.out.2.2.2.2.2.1) (hb 8)
          have e10 := (HV.out.2.2.2.2.2.2) (hb 10)
          simp only [e0, e1, e2, e3, e4, e8, e10]
          clear HV e0 e1 e2 e3 e4 e8 e10
          obtain ⟨g, x1, x2, x3', x4'⟩ := HX.out
          obtain ⟨zz, hlo, hg5⟩ := x1 (hb 5)
          subst zz
          obtain ⟨zz, _⟩ := x2 (hb 6)
          subst zz
          obtain ⟨zz, _⟩ := x3' (hb 7)
          subst zz
          obtain ⟨zz, _⟩ := x4' (hb 9)
          subst zz
          have HGG := Lib.hid (And.intro hlo hg5)
          have HB6 := Lib.hid (HB5.out.trans (HW.out.mono HB5.out.size))
          have HR6 := Lib.hid (HR5.out.below HR5.out.lt HW.out)
          have HX6 := Lib.hid (HX4.out.below HX4.out.lt HW.out)
          have HY6 := Lib.hid (HY.out.2.1.below HY.out.2.1.lt HW.out)
          have HRD6 := Lib.hid (HRD5.out.below HRD5.out.lt HW.out)
          have HS6 := Lib.hid (show w.heap.size ≤ w5.heap.size from HB5.out.size)
          clear x1 x2 x3' x4' hlo hg5 hb HX HW HR5 HX4 HB5 HRD5 HT5
          have q0 := HR6.out.cellAt (i := 0) rfl
          have q1 := HR6.out.cellAt (i := 1) rfl
          have p0 := HX6.out.cellAt (i := 0) rfl
          have p1' := HX6.out.cellAt (i := 1) rfl
          have f0 := HX6.out.free 0
          have f1 := HX6.out.free 1
          go_wp2_with fail
          have HS9 := Lib.hid ((HX6.out.set 0 (.slice (some ⟨g1, 0, none⟩) m m)).set 1 (.slice (some ⟨gd, 0, none⟩) q 2))
          have HU := Lib.hid ((ButL.set wy x4 0 (.slice (some ⟨g1, 0, none⟩) m m)).trans (ButL.set _ x4 1 (.slice (some ⟨gd, 0, none⟩) q 2)))
          generalize (wy.setCell ⟨x4, 0, none⟩ (.slice (some ⟨g1, 0, none⟩) m m)).setCell ⟨x4, 1, none⟩ (.slice (some ⟨gd, 0, none⟩) q 2) = w9 at *
          have c0 := HS9.out.cellAt (i := 0) rfl
          have c1 := HS9.out.cellAt (i := 1) rfl
          refine bodyPost_ret (v := .tuple #[.agg #[.slice (some ⟨g1, 0, none⟩) m m, .slice (some ⟨gd, 0, none⟩) q 2], .slice (some ⟨g, 0, none⟩) n n, .int .i64 0]) ?_ rfl ?_
          · rw [results_cell3 rfl]
            go_simp
          · have hx3 := HX.out
            have hxx := HXX.out
            exact ⟨g1, gd, 2, g, by rw [HLQ.out.1, HLQ.out.2.1, HE.out.1], HY6.out.block (HU.out.block _ HY6.out.lt (by simp; exact row_ne HY6.out HX6.out (by decide))), ⟨(ints [nth s 2, nth s 3]).drop q, by rw [roots_take HLQ.out.2.1 p3 p4 HP.out.root]; exact HRD6.out.block (HU.out.block _ HRD6.out.lt (by simp; exact row_ne HRD6.out HX6.out (by decide)))⟩, HGG.out.2.block (HU.out.block _ HGG.out.2.lt (by simp; exact row_ne HGG.out.2 HX6.out (by decide))), Nat.le_trans HS5.out HY.out.1, HLO.out, Nat.le_trans HS6.out HGG.out.1, HB6.out.trans (HU.out.below (by simp; omega) HB6.out.size)⟩

end Go.Proofs.YtogchamogbendaaGreat.Bs
/- Open. (Written by bin/gen_bsr.py.) -/
namespace Go.Proofs.YtogchamogbendaaGreat.Bs
set_option maxRecDepth 100000
open Go.RowKit Go.Proofs.YtogchamogbendaaGreat.Oct Go.Proofs.YtogchamogbendaaGreat.Mv Go.Proofs.YtogchamogbendaaGreat.Tl Go.Proofs.YtogchamogbendaaGreat.Pk Go.Proofs.YtogchamogbendaaGreat.Pl Go.Maps Go.ChangeMaps
open Go.Proofs.YtogchamogbendaaGreat.Dsk (dT)
open Go.Proofs.YtogchamogbendaaGreat.Su (Sup nth scells scell psup perr pslot zero18)
open Go.Proofs.YtogchamogbendaaGreat.Ix (idxPage idxBody wvals Wd OwnW DecYes)
set_option linter.unusedVariables false
set_option linter.unusedSimpArgs false
set_option pp.deepTerms true

theorem right_is {w : World} {a cb mb c : Nat} {s : Tl.St} (h : Tl.At w a cb mb c s) {A1 A2 : Option Addr} {c1 c2 n m : Nat} {l1 l2 : List Nat} (h1 : ToldV w A1 (ints l1)) (h2 : ToldV w A2 (ints l2)) (hr : RightS s (toI l1) (toI l2)) (hn : l1.length = n) (hm : l2.length = m) (hs : s.n ≤ 4096) :
    Calls Tryz.prog 77 #[.pointer (some ⟨a, 0, none⟩), .agg #[.slice A1 n c1, .slice A2 m c2]] w fun e w' => e = .returned (.bool true) ∧ Below w.heap.size w w' := by
  subst hn hm
  have hb := right_lt hr hs
  refine (right_nat h h1 h2 (fun x hx => by have := hb.1 x hx; omega) (fun x hx => by have := hb.2 x hx; omega)).mono fun e w' ⟨r, he, hi, hk⟩ => ⟨?_, hk⟩
  rw [he, hi.2 hr]
theorem built_base (A : Adr) (n m s1 d1 s2 d2 : Nat) (s : Sup) : Tryz.prog.built 72 [(0, .pointer (some ⟨A.d, 0, none⟩)), (1, .pointer (some ⟨A.ta, 0, none⟩)), (2, .pointer (some ⟨A.p, 0, none⟩)), (3, .agg #[.slice (some ⟨s1, 0, none⟩) n d1, .slice (some ⟨s2, 0, none⟩) m d2]), (4, .agg (scells s).toArray), (5, .agg (scells s).toArray), (6, .map (some A.fm))] = some ((bcells A n m s1 d1 s2 d2 s s).set 43 (.pointer none)).toArray := by kernel_rfl
theorem base_zero (w : World) : (zeroValue 72).run Tryz.prog w = .ok (.agg #[.pointer none, .pointer none, .pointer none, .slice none 0 0, .slice none 0 0, (.int .u64 0), (.int .u32 0), (.int .u32 0), (.int .u32 0), (.int .u32 0), (.int .u32 0), (.int .u32 0), (.int .u32 0), (.int .u32 0), (.int .u32 0), (.int .u64 0), (.int .u64 0), (.int .u64 0), (.int .u64 0), (.int .u64 0), (.int .u64 0), (.int .u64 0), (.int .u64 0), (.int .u64 0), (.int .u32 0), (.int .u32 0), (.int .u32 0), (.int .u32 0), (.int .u32 0), (.int .u32 0), (.int .u32 0), (.int .u32 0), (.int .u32 0), (.int .u64 0), (.int .u64 0), (.int .u64 0), (.int .u64 0), (.int .u64 0), (.int .u64 0), (.int .u64 0), (.int .u64 0), .map none, .bool false, .pointer none]) w := by kernel_rfl
theorem base_size : (Tryz.prog.info? 72).map (·.size) = some 44 := by kernel_rfl
theorem bcells_one (A : Adr) (n m s1 d1 s2 d2 : Nat) (s : Sup) : ∀ v ∈ (bcells A n m s1 d1 s2 d2 s s).set 43 (.pointer none), v.oneCell' = true := by
  intro v hv
  have h1 := Su.scells_one s
  rcases List.mem_or_eq_of_mem_set hv with hv | rfl
  · unfold bcells at hv
    simp only [List.mem_append, List.mem_cons, List.not_mem_nil, or_false] at hv
    rcases hv with (rfl | rfl | rfl | rfl | rfl) | hv | hv | (rfl | rfl | rfl) <;> first | rfl | exact h1 _ hv
  · rfl
theorem _root_.List.set_getElem?_self' {α : Type} {l : List α} {i : Nat} {v : α} (h : l[i]? = some v) : l.set i v = l := by
  apply List.ext_getElem?
  intro j
  rcases Nat.decEq i j with e | e
  · rw [List.getElem?_set_ne e]
  · subst e
    rw [List.getElem?_set_self (List.getElem?_eq_some_iff.1 h).1, h]
/-- What a disk that may be opened has. -/
structure Opens (D : Dsk.St) (s : Sup) (l1 l2 : List Nat) (W : List UInt16) : Prop where
  pick : psup (D.says 0) (D.says 1) = s ∧ perr (D.says 0) (D.says 1) = 0
  n : nth s 1 = D.n
  pages : Pages D s l1 l2 W
  right : RightS (Tl.St.of W) (toI l1) (toI l2)
def opened (D : Dsk.St) (s : Sup) (l1 l2 : List Nat) (W : List UInt16) : BS := ⟨⟨Tl.St.of W, 2, 2, 0⟩, l1, l2, s, s, fun _ => none, D⟩
/-- What Open answers. -/
def OpenOut (Pr : Nat → Prop) (w : World) (d : Nat) (x : BS) (e : Ending) (w' : World) : Prop := ∃ A : Adr, e = .returned (.tuple #[.pointer (some ⟨A.b, 0, none⟩), .int .i64 0]) ∧ A.d = d ∧ (∀ k ∈ A.list, w.heap.size ≤ k) ∧ BAt Pr w' A x ∧ Below w.heap.size w w'
set_option maxHeartbeats 1000000 in
theorem open_yes {Pr : Nat → Prop} {w : World} {d : Nat} {D : Dsk.St} (hd : DIs Pr w d D) (hg : D.gone = false) (hP : ∀ k, Pr k → k < w.heap.size) {s : Sup} {l1 l2 : List Nat} {W : List UInt16} (ho : Opens D s l1 l2 W) :
    Calls Tryz.prog 17 #[.pointer (some ⟨d, 0, none⟩)] w (OpenOut Pr w d (opened D s l1 l2 W)) := by
  have HD := Lib.hid hd
  have HO := Lib.hid ho
  have HP := Lib.hid hP
  have HOK := Lib.hid (show Su.Ok s from ho.pick.1 ▸ Su.ok_psup _ _)
  obtain ⟨n, hn⟩ : ∃ n, D.n = n := ⟨_, rfl⟩
  have HN := Lib.hid (show D.n = n ∧ 16 ≤ n ∧ n ≤ 4096 from ⟨hn, hn ▸ ho.pages.lo, hn ▸ ho.pages.hi⟩)
  clear hd hP ho hn
  go_enter Tryz.func17, Tryz.ntmps17
  go_wp2_with fail
  refine (superOf_any HD.out hg HN.out.1 (by have := HN.out.2.1; omega) HN.out.2.2 (s := s) (x := 0) (s' := s) (x' := 0) ⟨HO.out.pick.1, rfl, HO.out.pick.2⟩ (.inl ⟨rfl, HO.out.n.trans HN.out.1⟩) ⟨fun _ => ⟨rfl, rfl⟩, fun h => absurd rfl h⟩).mono ?_
  rintro e w1 ⟨rfl, kz⟩
  have HB1 := Lib.hid kz
  have hst := run_storeCells_new (P := Tryz.prog) w1 69 #[(.int .u64 0), (.int .u32 0), (.int .u32 0), (.int .u32 0), (.int .u32 0), (.int .u32 0), (.int .u32 0), (.int .u32 0), (.int .u32 0), (.int .u32 0), (.int .u64 0), (.int .u64 0), (.int .u64 0), (.int .u64 0), (.int .u64 0), (.int .u64 0), (.int .u64 0), (.int .u64 0)] (scells s).toArray (Su.size_scells _) (by simp [Su.length_scells]) (Su.one_scells _)
  have hlc := Su.length_scells s
  have r4 := alloc_rowV w1 69 (scells s)
  have b4 := (Below.refl w1.heap.size w1).alloc (Nat.le_refl _) (.cells (scells s).toArray 69)
  clear kz
  go_upto_region 2 with (fail)
  have HR4 := Lib.hid r4
  have HB2 := Lib.hid (HB1.out.trans (b4.mono HB1.out.size))
  clear hst hlc r4 b4 HB1
  generalize w1.alloc (.cells (scells s).toArray 69) = w2 at *
  generalize w1.heap.size = x4 at *
  go_wp2_with (first | (refine wpList_load_row rfl 69 (.tmp 4) rfl x4 rfl _ (scells s).toArray _ _ HR4.out Tryz.underlying69 rfl (Su.size_scells _) ?_))
  refine (pagesOf_any (HD.out.below HB2.out) hg HOK.out HO.out.pages).mono ?_
  rintro e w3 ⟨g1, g3, c3, g, rfl, r1, r3, rg, l1o, l3o, lgo, kz⟩
  have HG := Lib.hid (And.intro r1 (And.intro r3 (And.intro rg (And.intro HO.out.pages.n (And.intro HO.out.pages.len1 HO.out.pages.len2)))))
  have HL := Lib.hid (show w.heap.size ≤ g1 ∧ w.heap.size ≤ g3 from ⟨Nat.le_trans HB2.out.size l1o, Nat.le_trans HB2.out.size l3o⟩)
  have HR5 := Lib.hid (HR4.out.below HR4.out.lt kz)
  have HB3 := Lib.hid (HB2.out.trans (kz.mono HB2.out.size))
  clear r1 r3 rg l1o l3o lgo kz HR4 HB2
  have hz := sheet_zero
  have r6 := alloc_rowV w3 65 [.slice (some ⟨g1, 0, none⟩) l1.length l1.length, .slice (some ⟨g3, 0, none⟩) l2.length c3]
  have b6 := (Below.refl w3.heap.size w3).alloc (Nat.le_refl _) (.cells #[.slice (some ⟨g1, 0, none⟩) l1.length l1.length, .slice (some ⟨g3, 0, none⟩) l2.length c3] 65)
  go_upto_region 5 with (fail)
  have HR6 := Lib.hid r6
  have HR7 := Lib.hid (HR5.out.below HR5.out.lt b6)
  have HB4 := Lib.hid (HB3.out.trans (b6.mono HB3.out.size))
  have HG4 := Lib.hid (show RowV _ g1 3 (ints l1) ∧ (∃ sp, RowV _ g3 3 (ints l2 ++ sp)) ∧ RowV _ g 34 (nums W) ∧ W.length = D.n ∧ l1.length = pg D.n ∧ l2.length = pg (pg D.n) from
    ⟨HG.out.1.below HG.out.1.lt b6, HG.out.2.1.imp (fun _ h => h.below h.lt b6), HG.out.2.2.1.below HG.out.2.2.1.lt b6, HG.out.2.2.2⟩)
  clear r6 b6 hz HR5 HB3 HG
  generalize w3.alloc (.cells #[.slice (some ⟨g1, 0, none⟩) l1.length l1.length, .slice (some ⟨g3, 0, none⟩) l2.length c3] 65) = w4 at *
  generalize w3.heap.size = x6 at *
  go_wp2_with fail
  refine (Tl.of_yes HG4.out.2.2.1.has.told rfl (by have := HN.out; have := HG4.out.2.2.2.1; omega) (by have := HN.out; have := HG4.out.2.2.2.1; omega)).mono ?_
  rintro e w5 ⟨ta, cb, mb, c, rfl, hF⟩
  have HF := Lib.hid hF
  have q0 := (HR6.out.below HR6.out.lt hF.below).cellAt (i := 0) rfl
  have q1 := (HR6.out.below HR6.out.lt hF.below).cellAt (i := 1) rfl
  clear hF
  go_wp2_with fail
  refine (right_is HF.out.at' (HG4.out.1.below HG4.out.1.lt HF.out.below).has.told (has_told (HG4.out.2.1.imp fun _ h => h.below h.lt HF.out.below)) HO.out.right rfl rfl (by show W.length ≤ 4096; have := HN.out; have := HG4.out.2.2.2.1; omega)).mono ?_
  rintro e w6 ⟨rfl, kz⟩
  have HF6 := Lib.hid (show Tl.At w6 ta cb mb c (Tl.St.of W) ∧ w4.heap.size ≤ ta ∧ w4.heap.size ≤ cb ∧ w4.heap.size ≤ mb ∧ Below w4.heap.size w4 w6 from ⟨HF.out.at'.kept kz, HF.out.ha, HF.out.hc, HF.out.hm, HF.out.below.trans (kz.mono HF.out.below.size)⟩)
  clear kz HF q0 q1
  go_wp2_with fail
  refine (pnew_yes HF6.out.1 2 (by show 2 ≤ W.length; have := HN.out; have := HG4.out.2.2.2.1; omega)).mono ?_
  rintro e w7 ⟨p, rfl, hP7⟩
  have HP7 := Lib.hid (show PAt w7 p ta cb mb c ⟨Tl.St.of W, 2, 2, 0⟩ ∧ w4.heap.size ≤ p ∧ Below w4.heap.size w4 w7 from ⟨hP7.at', Nat.le_trans HF6.out.2.2.2.2.size hP7.hp, HF6.out.2.2.2.2.trans (hP7.below.mono HF6.out.2.2.2.2.size)⟩)
  clear hP7
  have HR8 := Lib.hid (HR7.out.below HR7.out.lt HP7.out.2.2)
  have HS8 := Lib.hid (HR6.out.below HR6.out.lt HP7.out.2.2)
  have HG8 := Lib.hid (show RowV w7 g1 3 (ints l1) ∧ (∃ sp, RowV w7 g3 3 (ints l2 ++ sp)) from ⟨HG4.out.1.below HG4.out.1.lt HP7.out.2.2, HG4.out.2.1.imp (fun _ h => h.below h.lt HP7.out.2.2)⟩)
  have q0 := HS8.out.cellAt (i := 0) rfl
  have q1 := HS8.out.cellAt (i := 1) rfl
  have hmm := @run_makeMap Tryz.prog
  have hzb := base_zero
  have hfm := fm_made w7
  have bfm := (Below.refl w7.heap.size w7).alloc (Nat.le_refl _) (.map #[] 0)
  have sfm : (w7.alloc (.map #[] 0)).heap.size = w7.heap.size + 1 := by simp
  obtain ⟨fm, hfmq⟩ : ∃ x, x = w7.heap.size := ⟨_, rfl⟩
  obtain ⟨CS, hCS⟩ : ∃ CS, CS = (bcells ⟨fm + 1, ta, cb, mb, c, p, fm, d⟩ l1.length l2.length g1 l1.length g3 c3 s s).set 43 (.pointer none) := ⟨_, rfl⟩
  have HBB := Lib.hid (built_base ⟨fm + 1, ta, cb, mb, c, p, fm, d⟩ l1.length l2.length g1 l1.length g3 c3 s)
  have hlen : CS.length = 44 := by rw [hCS, List.length_set, length_bcells]
  have hone : CS.toArray.all (·.oneCell') = true := by
    rw [Array.all_eq_true_iff_forall_mem]
    intro v hv
    rw [hCS] at hv
    exact bcells_one _ _ _ _ _ _ _ _ v (by simpa using hv)
  rw [← hCS] at HBB
  have HCS := Lib.hid hCS
  clear hCS
  rw [← hfmq] at hfm bfm sfm
  have hst := run_storeCells_new (P := Tryz.prog) (w7.alloc (.map #[] 0)) 72 #[.pointer none, .pointer none, .pointer none, .slice none 0 0, .slice none 0 0, (.int .u64 0), (.int .u32 0), (.int .u32 0), (.int .u32 0), (.int .u32 0), (.int .u32 0), (.int .u32 0), (.int .u32 0), (.int .u32 0), (.int .u32 0), (.int .u64 0), (.int .u64 0), (.int .u64 0), (.int .u64 0), (.int .u64 0), (.int .u64 0), (.int .u64 0), (.int .u64 0), (.int .u64 0), (.int .u32 0), (.int .u32 0), (.int .u32 0), (.int .u32 0), (.int .u32 0), (.int .u32 0), (.int .u32 0), (.int .u32 0), (.int .u32 0), (.int .u64 0), (.int .u64 0), (.int .u64 0), (.int .u64 0), (.int .u64 0), (.int .u64 0), (.int .u64 0), (.int .u64 0), .map none, .bool false, .pointer none] CS.toArray (by rw [base_size]; simp [hlen]) (by simp [hlen]) hone
  have HM := Lib.hid (And.intro hfm (And.intro bfm sfm))
  have HFQ := Lib.hid hfmq
  clear hfm bfm sfm
  have hbb := HBB.out
  dsimp only at hbb
  rw [hfmq] at hbb
  replace HBB := Lib.hid hbb
  clear hfmq hbb
  go_upto_region 11 with (fail)
  go_upto_region 12 with (first | (refine wpList_load_row rfl 69 (.tmp 4) rfl x4 rfl _ (scells s).toArray _ _ HR8.out Tryz.underlying69 rfl (Su.size_scells _) ?_) | (refine Su.wpList_build_as rfl 72 #[(0, .tmp 45), (1, .tmp 46), (2, .tmp 47), (3, .tmp 48), (4, .tmp 49), (5, .tmp 50), (6, .tmp 51)] rfl CS.toArray ?_ ?_; (simp [Act.eval]); exact HBB.out))
  clear q0 q1 hmm hzb hst
  have r9 := alloc_rowV (w7.alloc (.map #[] 0)) 72 CS
  have b9 := (Below.refl (w7.alloc (.map #[] 0)).heap.size _).alloc (Nat.le_refl _) (.cells CS.toArray 72)
  have sz := HM.out.2.2
  rw [sz] at r9 b9
  rw [← HFQ.out]
  have HK := Lib.hid (show FMap (w7.alloc (.map #[] 0)) fm (fun _ => none) ∧ Below fm w7 (w7.alloc (.map #[] 0)) ∧ (w7.alloc (.map #[] 0)).heap.size = fm + 1 from HM.out)
  have hq43 : CS[43]? = some (.pointer none) := by rw [HCS.out]; exact List.getElem?_set_self (by rw [length_bcells]; omega)
  have q43 := r9.cellAt hq43
  have f43 := r9.free 43
  have HR9 := Lib.hid r9
  have HB9 := Lib.hid b9
  clear r9 b9 hq43 sz HM HBB hlen hone
  generalize (w7.alloc (.map #[] 0)).alloc (.cells CS.toArray 72) = w9 at *
  generalize w7.alloc (.map #[] 0) = w8 at *
  go_wp2_with fail
  have HR10 := Lib.hid (HR9.out.set 43 (.pointer (some ⟨fm + 1, 0, none⟩)))
  have HU := Lib.hid (ButL.set w9 (fm + 1) 43 (.pointer (some ⟨fm + 1, 0, none⟩)))
  generalize w9.setCell ⟨fm + 1, 43, none⟩ (.pointer (some ⟨fm + 1, 0, none⟩)) = w10 at *
  go_ret2
  have hfq := HFQ.out
  have s8 := HK.out.2.2
  have B810 : Below (fm + 1) w8 w10 := HB9.out.trans (HU.out.below (by simp) (by have := HB9.out.size; omega))
  have B710 : Below fm w7 w10 := HK.out.2.1.trans (B810.mono (by omega))
  have B410 : Below w4.heap.size w4 w10 := HP7.out.2.2.trans (B710.mono (by rw [hfq]; exact HP7.out.2.2.size))
  have BA : Below w.heap.size w w10 := HB4.out.trans (B410.mono HB4.out.size)
  have s47 := HP7.out.2.2.size
  have s4 := HB4.out.size
  have hlist : ∀ k ∈ (⟨fm + 1, ta, cb, mb, c, p, fm, d⟩ : Adr).list, w.heap.size ≤ k := by
    have a1 := HF6.out.2.2.1
    have a2 := HF6.out.2.2.2.1
    have a3 := HP7.out.2.1
    simp only [Adr.list, List.mem_cons, List.not_mem_nil, or_false]
    rintro k (rfl | rfl | rfl | rfl | rfl) <;> omega
  refine ⟨⟨fm + 1, ta, cb, mb, c, p, fm, d⟩, rfl, rfl, hlist, ⟨⟨g1, l1.length, g3, c3, ?_, ⟨[], ?_⟩, ?_⟩, ?_, ?_, HD.out.below BA, ?_, fun k hk hpr => absurd (HP.out k hpr) (Nat.not_lt.2 (hlist k hk)), fun k hpr => Nat.lt_of_lt_of_le (HP.out k hpr) BA.size⟩, BA⟩
  · have h := HR10.out
    rw [HCS.out, List.set_set] at h
    rwa [List.set_getElem?_self' (bc43 _ _ _ _ _ _ _ _ _)] at h
  · rw [List.append_nil]; exact HG8.out.1.below (by have := HG8.out.1.lt; omega) B710
  · exact HG8.out.2.imp fun _ h => h.below (by have := h.lt; omega) B710
  · exact HP7.out.1.kept (by rw [← hfq]; exact B710)
  · exact HK.out.1.keep (B810.block fm (by omega)) fun g bs hb => hb.below (by have := hb.lt; omega) B810
  · have := HP7.out.1.tally.mp.lt
    show mb ≠ fm
    omega

end Go.Proofs.YtogchamogbendaaGreat.Bs
/- The fresh blocks in order; what a Commit writes. -/
namespace Go.Proofs.YtogchamogbendaaGreat.Bs
set_option maxRecDepth 100000
open Go.RowKit Go.Proofs.YtogchamogbendaaGreat.Oct Go.Proofs.YtogchamogbendaaGreat.Mv Go.Proofs.YtogchamogbendaaGreat.Tl Go.Proofs.YtogchamogbendaaGreat.Pk Go.Proofs.YtogchamogbendaaGreat.Pl Go.Maps Go.ChangeMaps Go.Sort Go.Shelf
open Go.Proofs.YtogchamogbendaaGreat.Dsk (dT)
open Go.Proofs.YtogchamogbendaaGreat.Su (Sup nth scells scell)
set_option linter.unusedVariables false
set_option linter.unusedSimpArgs false

theorem sorted_frL (fr : Nat → Option (List UInt8)) {ss : List Int} (h : ss.Perm ((frL fr).map fun i : Nat => (i : Int))) : ss.mergeSort (fun x y => decide (x ≤ y)) = (frL fr).map fun i : Nat => (i : Int) := by
  have h2 := mergeSort_of_perm_i h
  have h3 : ((frL fr).map fun i : Nat => (i : Int)).mergeSort leI = (frL fr).map fun i : Nat => (i : Int) := by
    refine List.mergeSort_of_pairwise (List.pairwise_map.2 (List.Pairwise.imp (fun {a b} (h : a < b) => ?_) (List.pairwise_lt_range.filter _)))
    simp [leI]
    omega
  exact h2.trans h3
theorem keys_call (fm : Nat) (W : World) :
    Calls Tryz.prog 148 #[.map (some fm)] W fun e w' => e = .returned (.func (.func 194) #[] #[.pointer (some ⟨W.heap.size, 0, none⟩)]) ∧ w' = W.alloc (.cells #[.map (some fm)] 70) :=
  (callsIn_wide (n := 5)).1 (AnyZI.keys_in It.keysB Fence.wide 5 trivial rfl (some fm) W)
/-- A list of numbers in a row of its own. -/
def OwnL (w : World) (v : Value) (l : List Nat) : Prop := ∃ B, w.ownsRow B 3 1 v l.length ((l.map fun i : Nat => (i : Int)).map encZ)
theorem OwnL.told {w : World} {v : Value} {l : List Nat} (h : OwnL w v l) : List64 w v l := by
  obtain ⟨B, hrow⟩ := h
  rcases hrow.2 with ⟨rfl, h0⟩ | ⟨g, cap, cur, rfl, hbb, hg, hn, hm, hs, ht⟩
  · have hz : l.length = 0 := by simpa using h0
    exact ⟨none, 0, by rw [hz], .inl (by simp [ints, List.eq_nil_of_length_eq_zero hz])⟩
  · refine ⟨_, cap, rfl, .inr ⟨g, 0, rfl, fun i hi => ?_⟩⟩
    rw [length_ints] at hi
    rw [Nat.zero_add, World.ownsRow.cellAt hrow i (by simpa using hi)]
    simp [ints, hi, encZ]
theorem OwnL.off {w w' : World} {v : Value} {l : List Nat} {T : TypeId → Bool} {Pr : Nat → Prop} (h : OwnL w v l) (k : Off T Pr [] w w') (hT : T 3 = false) : OwnL w' v l := by
  obtain ⟨B, ho⟩ := h
  refine ⟨B, Dsk.own_same ho fun j hj hl => ?_⟩
  rcases ho.2 with ⟨rfl, _⟩ | ⟨g, cap, cur, rfl, _, hg, _⟩
  · cases hj
  · cases hj
    exact k.block g hl (by simp) (.inr fun cs t fr e => by rw [hg] at e; cases e; exact hT)
set_option maxRecDepth 100000 in
set_option maxHeartbeats 1000000 in
theorem sorted_call {w : World} {fm : Nat} {fr : Nat → Option (List UInt8)} (h : FMap w fm fr) :
    Calls Tryz.prog 147 #[.func (.func 194) #[] #[.pointer (some ⟨w.heap.size, 0, none⟩)]] (w.alloc (.cells #[.map (some fm)] 70)) fun e w' => ∃ v, e = .returned v ∧ OwnL w' v (frL fr) ∧ Below w.heap.size w w' := by
  obtain ⟨nn, D0, hown, hsays⟩ := h
  have HP := Lib.hid (fr_keys hown hsays)
  have hfew := fr_few hown hsays
  have hmax : Maps.size D0 ≤ maxLen := by unfold maxLen; omega
  have hbytes : Maps.size D0 * 8 ≤ 140737488355328 := by omega
  have hbl := hown.lt
  have hseq : SeqGives Fence.wide 2 Tryz.prog 194 #[.pointer (some ⟨w.heap.size, 0, none⟩)] encZ (fun ss => ss.Perm (intKeys D0)) (Maps.size D0) (w.alloc (.cells #[.map (some fm)] 70)) :=
    AnyZI.keys_gives (ρ := It.keysB_ren) { It.keysB with } Fence.wide _ trivial rfl (by omega) w.heap.size fm nn D0 _ (by simp) (by simp) (by
      obtain ⟨es, clock, hb, Ft, hs, hD⟩ := hown
      exact ⟨es, clock, (Below.heap_alloc _ _ fm hbl).trans hb, Ft, hs, hD⟩)
  have cS := AnyZI.sorted_in It.sortedA Fence.wide 5 trivial trivial trivial trivial rfl (by omega) (Tl.sortsIn _) (enters_of Tryz.func193 (by kernel_rfl) rfl) 194 #[.pointer (some ⟨w.heap.size, 0, none⟩)] trivial (enters_of Tryz.func194 (by kernel_rfl) rfl) _ _ hmax hbytes _ hseq
  change CallsIn _ _ Tryz.prog 147 _ _ _ at cS
  refine ((callsIn_wide (n := 5)).1 cS).mono ?_
  rintro e w' ⟨v, ss, rfl, hS, hrow, hnil, hb⟩
  have hP := hS.trans HP.out.symm
  have hL := sorted_frL fr hP
  have hlen : ss.length = (frL fr).length := by rw [hP.length_eq, List.length_map]
  rw [hL, hlen] at hrow
  exact ⟨v, rfl, ⟨_, hrow⟩, ((Below.refl _ w).alloc (Nat.le_refl _) _).trans (hb.mono (by simp))⟩
end Go.Proofs.YtogchamogbendaaGreat.Bs
/- What a Commit writes. (Written by bin/gen_bst.py.) -/
namespace Go.Proofs.YtogchamogbendaaGreat.Bs
set_option maxRecDepth 100000
open Go.RowKit Go.Proofs.YtogchamogbendaaGreat.Oct Go.Proofs.YtogchamogbendaaGreat.Mv Go.Proofs.YtogchamogbendaaGreat.Tl Go.Proofs.YtogchamogbendaaGreat.Pk Go.Proofs.YtogchamogbendaaGreat.Pl Go.Maps Go.ChangeMaps
open Go.Proofs.YtogchamogbendaaGreat.Dsk (dT)
open Go.Proofs.YtogchamogbendaaGreat.Su (Sup nth scells scell)
set_option linter.unusedVariables false
set_option linter.unusedSimpArgs false
set_option pp.deepTerms true

def putSteps (fr : Nat → Option (List UInt8)) (l : List Nat) : List Stp := l.map fun k => .w k ((fr k).getD [])
/-- The steps of a Commit. -/
def comSteps (fr : Nat → Option (List UInt8)) (s : Tl.St) (m1 m2 k1 k2 : List Nat) (next : Sup) : List Stp := putSteps fr (frL fr) ++ (cntSteps s m1 k1 ++ dirSteps m1 m2 k2) ++ finSteps next
theorem length_putSteps (fr : Nat → Option (List UInt8)) (l : List Nat) : (putSteps fr l).length = l.length := by simp [putSteps]
theorem few_frL (fr : Nat → Option (List UInt8)) : (frL fr).length ≤ 4097 := by
  have := List.length_filter_le (fun i => (fr i).isSome) (List.range 4097)
  simpa [frL] using this
set_option maxHeartbeats 1000000 in
theorem plan_any {Pr : Nat → Prop} {w : World} {A : Adr} {x : BS} (h : BAt Pr w A x) {next : Sup} (hs : Su.Ok next) (hf : Su.Fit next) {g1 d1 g3 d3 c1 c2 : Nat} {A1 A2 : Option Addr} {m1 m2 k1 k2 : List Nat} (hsrc : Src w A.ta A.cb A.mb A.c x.q.s g1 d1 g3 d3 c1 c2 A1 A2 m1 m2 k1 k2) :
    Calls Tryz.prog 87 #[.pointer (some ⟨A.b, 0, none⟩), .agg (scells next).toArray, .agg (lval g1 m1.length d1 g3 m2.length d3 A1 c1 k1.length A2 c2 k2.length).toArray] w fun e w' => ∃ P B, e = .returned (.pointer (some ⟨P, 0, none⟩)) ∧ Pln w' B P A.d (comSteps x.fr x.q.s m1 m2 k1 k2 next) ∧ w.heap.size ≤ B ∧ Below w.heap.size w w' := by
  have H := Lib.hid h
  have HS := Lib.hid hsrc
  have HF := Lib.hid (And.intro hs hf)
  have hz := layout_zero
  have hst := run_storeCells_new (P := Tryz.prog) w 69 #[(.int .u64 0), (.int .u32 0), (.int .u32 0), (.int .u32 0), (.int .u32 0), (.int .u32 0), (.int .u32 0), (.int .u32 0), (.int .u32 0), (.int .u32 0), (.int .u64 0), (.int .u64 0), (.int .u64 0), (.int .u64 0), (.int .u64 0), (.int .u64 0), (.int .u64 0), (.int .u64 0)] (scells next).toArray (Su.size_scells _) (by simp [Su.length_scells]) (Su.one_scells _)
  have hlc := Su.length_scells next
  have r4 := alloc_rowV w 69 (scells next)
  have b4 := (Below.refl w.heap.size w).alloc (Nat.le_refl _) (.cells (scells next).toArray 69)
  have s4 : (w.alloc (.cells (scells next).toArray 69)).heap.size = w.heap.size + 1 := by simp
  have r5 := alloc_rowV (w.alloc (.cells (scells next).toArray 69)) 160 (lval g1 m1.length d1 g3 m2.length d3 A1 c1 k1.length A2 c2 k2.length)
  have b5 := (Below.refl (w.alloc (.cells (scells next).toArray 69)).heap.size _).alloc (Nat.le_refl _) (.cells (lval g1 m1.length d1 g3 m2.length d3 A1 c1 k1.length A2 c2 k2.length).toArray 160)
  clear h hsrc hs hf
  unfold lval at r5 b5 ⊢
  go_enter Tryz.func87, Tryz.ntmps87
  go_upto_region 1 with (fail)
  have HR4 := Lib.hid (r4.below r4.lt b5)
  rw [s4] at r5 b5
  have HR5 := Lib.hid r5
  have HB5 := Lib.hid (b4.trans (b5.mono (by omega)))
  obtain ⟨x4, hx4⟩ : ∃ x, x = w.heap.size := ⟨_, rfl⟩
  rw [← hx4] at HR4 HR5 ⊢
  clear hz hst hlc r4 b4 s4 r5 b5
  generalize (w.alloc (.cells (scells next).toArray 69)).alloc (.cells #[.slice (some ⟨g1, 0, none⟩) m1.length d1, .slice (some ⟨g3, 0, none⟩) m2.length d3, .slice A1 k1.length c1, .slice A2 k2.length c2] 160) = v at *
  have HV := Lib.hid (H.out.below HB5.out)
  have HSV := Lib.hid (HS.out.kept HB5.out)
  have c0 := HV.out.c0
  have r6 := alloc_rowV v 180 [.pointer (some ⟨A.d, 0, none⟩), .slice none 0 0]
  have b6 := (Below.refl v.heap.size v).alloc (Nat.le_refl _) (.cells #[.pointer (some ⟨A.d, 0, none⟩), .slice none 0 0] 180)
  go_upto_region 2 with (fail)
  have HP0 := Lib.hid (Pln.empty r6 (Nat.le_refl _))
  obtain ⟨P, hP⟩ : ∃ x, x = v.heap.size := ⟨_, rfl⟩
  have HPP := Lib.hid hP
  have HB6 := Lib.hid b6
  rw [← hP] at HP0 HB6 ⊢
  clear c0 r6 b6 hP hx4
  generalize v.alloc (.cells #[.pointer (some ⟨A.d, 0, none⟩), .slice none 0 0] 180) = w6 at *
  have HWV := Lib.hid (show ∀ wr, Below P v wr → BAt Pr wr A x from fun wr k => HV.out.below (by rw [← HPP.out]; exact k))
  have c41 := (HWV.out w6 HB6.out).c41
  go_wp2_with fail
  refine (keys_call A.fm w6).mono ?_
  rintro e w7 ⟨rfl, rfl⟩
  go_wp2_with fail
  refine (sorted_call (HWV.out w6 HB6.out).fm).mono ?_
  rintro e w8 ⟨u, rfl, hOL, kz⟩
  obtain ⟨AL, cl, rfl, hT⟩ := hOL.told
  have HT8 := Lib.hid hOL
  have HP8 := Lib.hid (HP0.out.below kz)
  have HB8 := Lib.hid (HB6.out.trans (kz.mono (by have := HB6.out.size; have := HPP.out; omega)))
  obtain ⟨ks, hks⟩ : ∃ ks, ks = frL x.fr := ⟨_, rfl⟩
  have HKS := Lib.hid hks
  have hk4 : ks.length ≤ 4097 := by rw [hks]; exact few_frL _
  rw [← hks] at HT8 ⊢
  clear hT hOL kz hks c41 HB6 HP0
  go_wp2_with fail
  go_loopw [23] (fun i wr => ∃ k : Nat, k ≤ ks.length ∧ i = .int .i64 (k : Int) ∧ Hid (Pln wr P P A.d (putSteps x.fr (ks.take k))) ∧ Hid (Below P v wr) ∧ Hid (OwnL wr (.slice AL ks.length cl) ks)) (fun i _ => ks.length - (Go.RowKit.intOf i).toNat)
  case atStart => exact ⟨0, Nat.zero_le _, rfl, HP8, HB8, HT8⟩
  case round =>
    obtain ⟨k, hk, rfl, HPk, HBk, HTk⟩ := hrel
    clear HP8 HB8 HT8
    have HA := Lib.hid (HWV.out wr HBk.out)
    have HPS := Lib.hid (show P ≤ wr.heap.size from by have := HBk.out.size; have := HPP.out; omega)
    by_cases hlt : k < ks.length
    · have hki : (k : Int) < (ks.length : Int) := by omega
      have hge : (0 : Int) ≤ (k : Int) := by omega
      obtain ⟨A', c', hA', hT'⟩ := HTk.out.told
      have hAA : A' = AL := by cases hA'; rfl
      subst hAA
      obtain ⟨b1, o1, rfl, hb1, hc1⟩ := told_nat hT' hlt
      have hj := mem_getD hlt
      rw [HKS.out] at hj
      have HJ := Lib.hid (mem_frL.1 hj)
      have HNX := Lib.hid (show putSteps x.fr (ks.take (k + 1)) = putSteps x.fr (ks.take k) ++ [.w (ks.getD k 0) ((x.fr (ks.getD k 0)).getD [])] by
        unfold putSteps
        have hg : ks.getD k 0 = ks[k] := by rw [List.getD_eq_getElem?_getD, List.getElem?_eq_getElem hlt]; rfl
        rw [List.take_add_one, List.getElem?_eq_getElem hlt, List.map_append, hg]
        rfl)
      rw [← HKS.out] at HJ
      clear hj hA' hT'
      generalize ks.getD k 0 = j at *
      have hj4 := HJ.out.1
      obtain ⟨bs, hbs⟩ := Option.isSome_iff_exists.1 HJ.out.2
      obtain ⟨vv, _, hlook, hv⟩ := fm_look HA.out.fm j hj4
      obtain ⟨hl, g, cg, rfl, hby, _, _⟩ := hv bs hbs
      have HY := Lib.hid (And.intro hl hby)
      have c41 := HA.out.c41
      clear hv hl hby hj4
      go_wp2_with fail
      refine (pwrite HPk.out HPS.out (by rw [length_putSteps, List.length_take]; omega) j g cg bs HY.out.1 HY.out.2).mono ?_
      rintro e w9 ⟨rfl, hp9, ho9⟩
      have HP9 := Lib.hid (show Pln w9 P P A.d (putSteps x.fr (ks.take (k + 1))) by rw [HNX.out, hbs]; exact hp9)
      have HB9 := Lib.hid (HBk.out.trans (off_below ho9 HPS.out))
      have HT9 := Lib.hid (HTk.out.off ho9 rfl)
      clear hp9 ho9 hlook c41 hc1 HPk HBk HTk
      go_wp2_with fail
      go_roundw
      case rel => exact ⟨k + 1, by omega, by go_num, HP9, HB9, HT9⟩
      case measure => simp [Go.RowKit.intOf]; omega
    · have hki : ¬ (k : Int) < (ks.length : Int) := by omega
      obtain rfl : k = ks.length := by omega
      rw [List.take_length] at HPk
      have c1x := HA.out.c1
      have HX5 := Lib.hid (HR5.out.below (by have := HR5.out.lt; have := HPP.out; omega) HBk.out)
      have HX4 := Lib.hid (HR4.out.below (by have := HR4.out.lt; have := HPP.out; omega) HBk.out)
      have q0 := HX5.out.cellAt (i := 0) rfl
      have q1 := HX5.out.cellAt (i := 1) rfl
      have q2 := HX5.out.cellAt (i := 2) rfl
      have q3 := HX5.out.cellAt (i := 3) rfl
      go_upto_region 7 with (fail)
      go_still_tail 6, (by kernel_rfl)
      change wpList _ _ _ _ _ wr.drew
      clear c1x q0 q1 q2 q3
      have HPd := Lib.hid (HPk.out.below ((show Still wr wr.drew from ⟨rfl, rfl, rfl, rfl⟩).below _))
      have HBd := Lib.hid (HBk.out.trans ((show Still wr wr.drew from ⟨rfl, rfl, rfl, rfl⟩).below _))
      have HX4d := Lib.hid (show RowV wr.drew x4 69 (scells next) from HX4.out)
      clear HPk HBk HTk HX4 HX5 HA HPS
      generalize wr.drew = wd at *
      go_wp2_with fail
      have hk5 := HKS.out
      refine (ppages (v := v) (by rw [← HPP.out]; exact HPd.out) (by rw [← HPP.out]; exact HBd.out) HSV.out (by rw [length_putSteps]; omega)).mono ?_
      rintro e w10 ⟨rfl, hp10, ho10⟩
      rw [← HPP.out] at hp10 ho10
      have sd : P ≤ wd.heap.size := by have := HBd.out.size; have := HPP.out; omega
      have HP10 := Lib.hid hp10
      have HB10 := Lib.hid (HBd.out.trans (off_below ho10 sd))
      have HX10 := Lib.hid (HX4d.out.below (by have := HX4d.out.lt; have := HR4.out.lt; have := HPP.out; omega) (off_below ho10 sd))
      have s10 : P ≤ w10.heap.size := by have := HB10.out.size; have := HPP.out; omega
      clear hp10 ho10 sd HPd HBd HX4d hk5
      go_wp2_with (first | (refine wpList_load_row rfl 69 (.tmp 4) rfl x4 rfl _ (scells next).toArray _ _ HX10.out Tryz.underlying69 rfl (Su.size_scells _) ?_))
      refine (pfinish HP10.out s10 ?few next HF.out.1 HF.out.2).mono ?_
      case few =>
        have h1 := HSV.out.hl1
        have h2 := HSV.out.hl2
        simp only [List.length_append, length_putSteps, length_cntSteps, length_dirSteps]
        omega
      rintro e w11 ⟨rfl, hp11, ho11⟩
      have HP11 := Lib.hid hp11
      have HB11 := Lib.hid (HB10.out.trans (off_below ho11 s10))
      clear hp11 ho11 HP10 HB10 HX10 s10
      go_wp2_with fail
      go_ret
      refine ⟨P, P, rfl, ?_, by rw [HPP.out]; exact HB5.out.size, HB5.out.trans (HB11.out.mono (by rw [HPP.out]; exact HB5.out.size))⟩
      have h := HP11.out
      rw [HKS.out] at h
      exact h

end Go.Proofs.YtogchamogbendaaGreat.Bs
/- Mathematics: what a Format leaves on a disk is just what Open takes. -/
namespace Go.Proofs.YtogchamogbendaaGreat.Bs
set_option maxRecDepth 100000
open Go.RowKit Go.Proofs.YtogchamogbendaaGreat.Oct Go.Proofs.YtogchamogbendaaGreat.Mv Go.Proofs.YtogchamogbendaaGreat.Tl Go.Proofs.YtogchamogbendaaGreat.Pk Go.Proofs.YtogchamogbendaaGreat.Pl Go.Maps Go.ChangeMaps
open Go.Proofs.YtogchamogbendaaGreat.Dsk (dT)
open Go.Proofs.YtogchamogbendaaGreat.Su (Sup nth scells scell psup perr pslot zero18)
open Go.Proofs.YtogchamogbendaaGreat.Ix (idxPage idxBody wvals Wd OwnW DecYes)
set_option linter.unusedVariables false
set_option linter.unusedSimpArgs false

/-- What is written last at a block, by steps. -/
def lastStep (p : Nat) (o : Option (List UInt8)) : Stp → Option (List UInt8)
  | .w q bs => if q = p then some bs else o
  | .f => o
def lastW (l : List Stp) (p : Nat) : Option (List UInt8) := l.foldl (lastStep p) none
theorem lastStep_w (p : Nat) (o : Option (List UInt8)) (q : Nat) (bs : List UInt8) : lastStep p o (.w q bs) = if q = p then some bs else o := rfl
theorem lastStep_or (p : Nat) (o : Option (List UInt8)) (s : Stp) : lastStep p o s = (lastStep p none s).or o := by
  cases s with
  | w q bs =>
    rw [lastStep_w, lastStep_w]
    by_cases h : q = p
    · rw [if_pos h, if_pos h]; rfl
    · rw [if_neg h, if_neg h]; cases o <;> rfl
  | f => cases o <;> rfl
theorem foldl_last (p : Nat) : ∀ (l : List Stp) (o : Option (List UInt8)), l.foldl (lastStep p) o = (l.foldl (lastStep p) none).or o
  | [], o => by cases o <;> rfl
  | s :: l, o => by
    rw [List.foldl_cons, List.foldl_cons, foldl_last p l (lastStep p o s), foldl_last p l (lastStep p none s), lastStep_or p o s, Option.or_assoc]
theorem lastW_app (l m : List Stp) (p : Nat) : lastW (l ++ m) p = (lastW m p).or (lastW l p) := by
  unfold lastW
  rw [List.foldl_append]
  exact foldl_last p m _
/-- Of some writes at blocks each of its own: what is written there. -/
theorem lastW_map (at_ : Nat → Nat) (pg_ : Nat → List UInt8) : ∀ (k : List Nat), (∀ i ∈ k, ∀ j ∈ k, at_ i = at_ j → i = j) → ∀ p, lastW (k.map fun i => Stp.w (at_ i) (pg_ i)) p = (k.find? fun i => at_ i == p).map pg_
  | [], _, p => rfl
  | i :: k, h, p => by
    have ih := lastW_map at_ pg_ k (fun a ha b hb => h a (List.mem_cons_of_mem _ ha) b (List.mem_cons_of_mem _ hb)) p
    rw [List.map_cons, show Stp.w (at_ i) (pg_ i) :: k.map (fun i => Stp.w (at_ i) (pg_ i)) = [Stp.w (at_ i) (pg_ i)] ++ k.map (fun i => Stp.w (at_ i) (pg_ i)) from rfl, lastW_app, ih, List.find?_cons]
    by_cases e : at_ i = p
    · have hn : (k.find? fun i => at_ i == p) = none ∨ i ∈ k := by
        by_cases hi : i ∈ k
        · exact .inr hi
        · refine .inl (List.find?_eq_none.2 fun j hj => ?_)
          intro ej
          have := h i (List.mem_cons_self ..) j (List.mem_cons_of_mem _ hj) (by rw [e]; exact (by simpa using ej : at_ j = p).symm)
          exact hi (this ▸ hj)
      have e1 : (at_ i == p) = true := by simp [e]
      rw [e1]
      rcases hn with hn | hn
      · rw [hn]
        show (none : Option (List UInt8)).or (lastStep p none (.w (at_ i) (pg_ i))) = some (pg_ i)
        rw [lastStep_w, if_pos e]
        rfl
      · cases hf : k.find? fun i => at_ i == p with
        | none =>
          have := List.find?_eq_none.1 hf i hn
          exact absurd e1 this
        | some j =>
          have hj := List.mem_of_find?_eq_some hf
          have ej : (at_ j == p) = true := List.find?_some (p := fun i => at_ i == p) hf
          have := h i (List.mem_cons_self ..) j (List.mem_cons_of_mem _ hj) (by rw [e]; exact (by simpa using ej : at_ j = p).symm)
          subst this
          rfl
    · have e1 : (at_ i == p) = false := by simp [e]
      rw [e1]
      show ((k.find? fun i => at_ i == p).map pg_).or (lastStep p none (.w (at_ i) (pg_ i))) = _
      rw [lastStep_w, if_neg e]
      cases (k.find? fun i => at_ i == p).map pg_ <;> rfl
theorem find_at {at_ : Nat → Nat} {k : List Nat} (h : ∀ i ∈ k, ∀ j ∈ k, at_ i = at_ j → i = j) {i : Nat} (hi : i ∈ k) : (k.find? fun j => at_ j == at_ i) = some i := by
  cases hf : k.find? fun j => at_ j == at_ i with
  | none => exact absurd (by simp : (at_ i == at_ i) = true) (List.find?_eq_none.1 hf i hi)
  | some j =>
    have ej : (at_ j == at_ i) = true := List.find?_some (p := fun j => at_ j == at_ i) hf
    rw [h j (List.mem_of_find?_eq_some hf) i hi (by simpa using ej)]
theorem find_not {at_ : Nat → Nat} {k : List Nat} {p : Nat} (h : ∀ i ∈ k, at_ i ≠ p) : (k.find? fun j => at_ j == p) = none :=
  List.find?_eq_none.2 fun j hj => by simp [h j hj]

/-- A disk's lengths are right. -/
structure Lok (D : Dsk.St) : Prop where
  len : D.B.length = D.n * 128
  wait : ∀ x, x ∈ D.W → x.1 < D.n ∧ x.2.length = 128
def Stp.fit (n : Nat) : Stp → Prop
  | .w p bs => p < n ∧ bs.length = 128
  | .f => True
theorem Lok.flushed {D : Dsk.St} (h : Lok D) (hc : Calm D) : Lok D.flushed := by
  have e : D.flushed = { Dsk.laid D (fun _ => 128) D.W.length with W := [] } := by unfold Dsk.St.flushed; rw [Dsk.calm_spent hc.gone hc.armed]
  refine ⟨?_, fun x hx => by rw [w_flushed] at hx; cases hx⟩
  rw [n_flushed hc, e]
  exact Dsk.laid_len D _ _ h.len h.wait
theorem stand_flushed' {D : Dsk.St} (hc : Calm D) (h : Lok D) (p : Nat) (hp : p < D.n) : D.flushed.stand p = D.says p := by
  have e : D.flushed = { Dsk.laid D (fun _ => 128) D.W.length with W := [] } := by unfold Dsk.St.flushed; rw [Dsk.calm_spent hc.gone hc.armed]
  rw [e]
  have := Dsk.stand_whole D (fun _ => 128) D.W.length h.len h.wait (fun _ _ => Nat.le_refl _) p hp (Nat.le_refl _)
  rw [List.take_length] at this
  exact this
theorem says_step {D : Dsk.St} (hc : Calm D) (h : Lok D) (s : Stp) (hf : Stp.fit D.n s) (p : Nat) (hp : p < D.n) : (doStep D s).says p = (lastStep p none s).getD (D.says p) ∧ Lok (doStep D s) := by
  cases s with
  | w q bs =>
    refine ⟨?_, ⟨h.len, fun x hx => ?_⟩⟩
    · show (D.wrote q bs).says p = _
      rw [says_wrote]
      rw [lastStep_w]
      by_cases e : q = p
      · rw [if_pos e, if_pos e]; rfl
      · rw [if_neg e, if_neg e]; rfl
    · rcases List.mem_append.1 (show x ∈ D.W ++ [(q, bs)] from hx) with k | k
      · exact h.wait x k
      · rw [List.mem_singleton] at k
        subst k
        exact hf
  | f => exact ⟨by show D.flushed.says p = _; rw [says_still (w_flushed D), stand_flushed' hc h p hp]; rfl, h.flushed hc⟩
theorem says_steps : ∀ (l : List Stp) (D : Dsk.St), Calm D → Lok D → (∀ s ∈ l, Stp.fit D.n s) → (Lok (doSteps D l)) ∧ ∀ p, p < D.n → (doSteps D l).says p = (lastW l p).getD (D.says p)
  | [], D, _, h, _ => ⟨h, fun p _ => rfl⟩
  | s :: l, D, hc, h, hf => by
    have hn := doStep_n hc s
    by_cases h0 : 0 < D.n
    · have h1 := fun p hp => (says_step hc h s (hf s (List.mem_cons_self ..)) p hp).1
      have h2 := (says_step hc h s (hf s (List.mem_cons_self ..)) 0 h0).2
      obtain ⟨k1, k2⟩ := says_steps l (doStep D s) (doStep_calm hc s) h2 (fun t ht => by rw [hn]; exact hf t (List.mem_cons_of_mem _ ht))
      refine ⟨k1, fun p hp => ?_⟩
      show (doSteps (doStep D s) l).says p = _
      rw [k2 p (by rw [hn]; exact hp), h1 p hp, show (s :: l) = [s] ++ l from rfl, lastW_app]
      show (lastW l p).getD ((lastStep p none s).getD (D.says p)) = ((lastW l p).or (lastStep p none s)).getD (D.says p)
      cases lastW l p <;> rfl
    · have hs : s = .f ∨ ∃ q bs, s = .w q bs := by cases s with
        | w q bs => exact .inr ⟨q, bs, rfl⟩
        | f => exact .inl rfl
      rcases hs with rfl | ⟨q, bs, rfl⟩
      · obtain ⟨k1, _⟩ := says_steps l (doStep D .f) (doStep_calm hc _) (h.flushed hc) (fun t ht => by rw [hn]; exact hf t (List.mem_cons_of_mem _ ht))
        exact ⟨k1, fun p hp => absurd hp (by omega)⟩
      · have := (hf _ (List.mem_cons_self ..)).1
        exact absurd this (by omega)

theorem part_now (s : Tl.St) (i : Nat) : ptW s.now i = Pl.part s i := by
  unfold ptW Pl.part Pl.many
  apply List.ext_getElem
  · simp [Tl.St.n]
  · intro j h1 h2
    simp only [List.getElem_take, List.getElem_drop, List.getElem_map, List.getElem_range]
    unfold Tl.St.cnt
    rw [List.getD_eq_getElem?_getD, List.getElem?_eq_getElem (by simp at h1; omega)]
    rfl
theorem dir_now (l : List Nat) (i : Nat) : ptW (l.map UInt16.ofNat) i = dirW l i := by
  unfold ptW dirW
  rw [List.map_take, List.map_drop]
theorem format_opens {n : Nat} {y : Wk} {D : Dsk.St} (h1 : 16 ≤ n) (h2 : n ≤ 400) (hr : (Pl.begin (q0 n) (zeros (pg n)) (zeros (pg (pg n)))).Runs y) (hc : Calm D) (hl : Lok D) (hn : D.n = n) :
    Opens (doSteps D (fmtSteps n y)) (leadS (sup0 n) y.l2) y.l1 y.l2 y.q.s.now := by
  obtain ⟨hs, hyn, _, hc1⟩ := sound0 h1 h2 hr
  have hf := fmtY h1 h2 hr
  have hok : (q0 n).Ok := ⟨.new (by omega) (by omega), by show 2 ≤ (St.new n).n; rw [n_new]; omega, Nat.le_refl _, .inr rfl, Nat.zero_le _⟩
  have hg := q0_good h1 h2
  have hb : Pl.Base (q0 n) (zeros (pg n) ++ zeros (pg (pg n))) := ⟨fun i _ h => absurd (by rw [zeros_app, zeros_get]) h, by show 1 ≤ 2; omega⟩
  have hri := begin_ri (q := q0 n) (l1 := zeros (pg n)) (l2 := zeros (pg (pg n))) (fun i _ h => absurd (by rw [zeros_app, zeros_get]) h)
  have hr2 := hr.ri hg hb hri
  have hgy := hf.good
  have hone : ∀ i, i < (y.l1 ++ y.l2).length → (y.l1 ++ y.l2).getD i 0 ≠ 0 ∧ (y.l1 ++ y.l2).getD i 0 < n ∧ y.q.s.cnt ((y.l1 ++ y.l2).getD i 0) = 1 := fun i hi => by
    have := hs.one i hi
    exact ⟨this.1, by have e : (Q.keep y.q).s.n = y.q.s.n := rfl; omega, this.2.2.1⟩
  have hall : ∀ i, i < (y.l1 ++ y.l2).length → (y.f1 ++ y.f2).getD i false = true := fun i hi => by
    rcases Bool.eq_false_or_eq_true ((y.f1 ++ y.f2).getD i false) with e | e
    · exact e
    · have := (hr2.un i hi e).1
      rw [zeros_app, zeros_get] at this
      exact absurd this (hone i hi).1
  have hd1 : ∀ i, i < y.l1.length → i ∈ doneL y.f1 := fun i hi => by
    rw [mem_done]
    have := hall i (by rw [List.length_append]; omega)
    rwa [getD_app1 _ _ _ (by rw [hgy.fl1]; exact hi)] at this
  have hd2 : ∀ i, i < y.l2.length → i ∈ doneL y.f2 := fun i hi => by
    rw [mem_done]
    have := hall (y.l1.length + i) (by rw [List.length_append]; omega)
    rwa [← hgy.fl1, getD_app2] at this
  have hlo : ∀ i, i < (y.l1 ++ y.l2).length → 2 ≤ (y.l1 ++ y.l2).getD i 0 := fun i hi => by
    have k1 := (hone i hi).1
    have k2 := (hone i hi).2.2
    have k3 : (y.l1 ++ y.l2).getD i 0 ≠ 1 := fun e => by
      rw [e, hc1] at k2
      exact absurd k2 (by decide)
    omega
  have e1 : ∀ i, i < y.l1.length → (y.l1 ++ y.l2).getD i 0 = y.l1.getD i 0 := fun i hi => getD_app1 _ _ _ hi
  have e2 : ∀ i, (y.l1 ++ y.l2).getD (y.l1.length + i) 0 = y.l2.getD i 0 := fun i => getD_app2 _ _ _ _
  have in1 : ∀ i ∈ doneL y.f1, i < y.l1.length := fun i hi => by have := mem_done_lt hi; rw [hgy.fl1] at this; exact this
  have in2 : ∀ i ∈ doneL y.f2, i < y.l2.length := fun i hi => by have := mem_done_lt hi; rw [hgy.fl2] at this; exact this
  have inj1 : ∀ i ∈ doneL y.f1, ∀ j ∈ doneL y.f1, y.l1.getD i 0 = y.l1.getD j 0 → i = j := fun i hi j hj e => by
    by_cases h : i = j
    · exact h
    · have k1 := in1 i hi
      have k2 := in1 j hj
      have := hs.ne i j (by rw [List.length_append]; omega) (by rw [List.length_append]; omega) h
      rw [e1 i k1, e1 j k2] at this
      exact absurd e this
  have inj2 : ∀ i ∈ doneL y.f2, ∀ j ∈ doneL y.f2, y.l2.getD i 0 = y.l2.getD j 0 → i = j := fun i hi j hj e => by
    by_cases h : i = j
    · exact h
    · have k1 := in2 i hi
      have k2 := in2 j hj
      have := hs.ne (y.l1.length + i) (y.l1.length + j) (by rw [List.length_append]; omega) (by rw [List.length_append]; omega) (by omega)
      rw [e2 i, e2 j] at this
      exact absurd e this
  have cross : ∀ i, i < y.l1.length → ∀ j, j < y.l2.length → y.l1.getD i 0 ≠ y.l2.getD j 0 := fun i hi j hj => by
    have := hs.ne i (y.l1.length + j) (by rw [List.length_append]; omega) (by rw [List.length_append]; omega) (by omega)
    rwa [e1 i hi, e2 j] at this
  have hl2 : y.l2.length ≤ 2 := by rw [hf.len2]; unfold pg; omega
  have hs18 : (sup0 n).length = 18 := by simp [sup0]
  have hlt32 : ∀ x ∈ y.l2, x < 4294967296 := fun x hx => by have := hf.lt2 x hx; omega
  have hsok := sup0_ok (n := n) (by omega) hl2 hlt32
  have hsfit := sup0_fit h1 (by omega) hl2 hf.lt2
  have hgen : nth (leadS (sup0 n) y.l2) 0 = 1 := by rw [leadS_low hs18 0 (by omega)]; rfl
  have hblk : nth (leadS (sup0 n) y.l2) 1 = n := by rw [leadS_low hs18 1 (by omega)]; rfl
  have hfit : ∀ t ∈ fmtSteps n y, Stp.fit D.n t := fun t ht => by
    rw [hn]
    have hlt := fmt_ok hf h1 t ht
    cases t with
    | f => trivial
    | w p bs =>
      refine ⟨hlt, ?_⟩
      unfold fmtSteps at ht
      rcases List.mem_append.1 ht with ht | ht
      · rcases List.mem_append.1 ht with ht | ht
        · simp [z128] at ht
          rcases ht with ⟨_, rfl⟩ | ⟨_, rfl⟩ <;> simp
        · rcases List.mem_append.1 ht with ht | ht
          · unfold cntSteps at ht
            obtain ⟨i, _, e⟩ := List.mem_map.1 ht
            injection e with _ e
            rw [← e]
            exact Ix.length_idxPage _ _ (part_le _ _)
          · unfold dirSteps at ht
            obtain ⟨i, _, e⟩ := List.mem_map.1 ht
            injection e with _ e
            rw [← e]
            exact Ix.length_idxPage _ _ (by rw [length_dirW]; omega)
      · unfold finSteps at ht
        simp at ht
        rw [ht.2]
        exact Su.length_supPage _
  obtain ⟨_, says⟩ := says_steps (fmtSteps n y) D hc hl hfit
  have hDn : (doSteps D (fmtSteps n y)).n = n := ((doSteps_all _ D hc).1).trans hn
  have hlast : ∀ p, lastW (fmtSteps n y) p = ((if 1 = p then some (Su.supPage (leadS (sup0 n) y.l2)) else none).or ((((doneL y.f2).find? fun j => y.l2.getD j 0 == p).map fun i => idxPage 4 (dirW y.l1 i)).or (((doneL y.f1).find? fun j => y.l1.getD j 0 == p).map fun i => idxPage 5 (Pl.part y.q.s i)))).or (if 1 = p then some z128 else if 0 = p then some z128 else none) := fun p => by
    unfold fmtSteps
    rw [lastW_app, lastW_app, lastW_app]
    unfold cntSteps dirSteps
    rw [lastW_map (fun i => y.l1.getD i 0) (fun i => idxPage 5 (Pl.part y.q.s i)) _ inj1, lastW_map (fun i => y.l2.getD i 0) (fun i => idxPage 4 (dirW y.l1 i)) _ inj2]
    have a1 : lastW (finSteps (leadS (sup0 n) y.l2)) p = if 1 = p then some (Su.supPage (leadS (sup0 n) y.l2)) else none := by
      unfold finSteps lastW
      rw [hgen]
      simp only [List.foldl_cons, List.foldl_nil, lastStep]
    have a2 : lastW [Stp.w 0 z128, Stp.w 1 z128, Stp.f] p = if 1 = p then some z128 else if 0 = p then some z128 else none := by
      unfold lastW
      simp only [List.foldl_cons, List.foldl_nil, lastStep]
    rw [a1, a2]
    simp only [Option.or_assoc]
  have s1 : (doSteps D (fmtSteps n y)).says 1 = Su.supPage (leadS (sup0 n) y.l2) := by
    rw [says 1 (by omega), hlast 1, if_pos rfl]
    rfl
  have s0 : (doSteps D (fmtSteps n y)).says 0 = z128 := by
    rw [says 0 (by omega), hlast 0, if_neg (by omega), if_neg (by omega), if_pos rfl]
    rw [find_not (fun i hi => by have k := hlo (y.l1.length + i) (by rw [List.length_append]; have := in2 i hi; omega); rw [e2 i] at k; omega)]
    rw [find_not (fun i hi => by have k := hlo i (by rw [List.length_append]; have := in1 i hi; omega); rw [e1 i (in1 i hi)] at k; omega)]
    rfl
  have sa : ∀ i, i < y.l1.length → (doSteps D (fmtSteps n y)).says (y.l1.getD i 0) = idxPage 5 (Pl.part y.q.s i) := fun i hi => by
    have k := hlo i (by rw [List.length_append]; omega)
    have kn := (hone i (by rw [List.length_append]; omega)).2.1
    rw [e1 i hi] at k kn
    rw [says _ (by omega), hlast _, if_neg (by omega), if_neg (by omega), if_neg (by omega)]
    rw [find_not (fun j hj => (cross i hi j (in2 j hj)).symm), find_at inj1 (hd1 i hi)]
    rfl
  have sb : ∀ i, i < y.l2.length → (doSteps D (fmtSteps n y)).says (y.l2.getD i 0) = idxPage 4 (dirW y.l1 i) := fun i hi => by
    have k := hlo (y.l1.length + i) (by rw [List.length_append]; omega)
    have kn := (hone (y.l1.length + i) (by rw [List.length_append]; omega)).2.1
    rw [e2 i] at k kn
    rw [says _ (by omega), hlast _, if_neg (by omega), if_neg (by omega), if_neg (by omega)]
    rw [find_at inj2 (hd2 i hi)]
    rfl
  have hlater : Su.Later z128 (Su.supPage (leadS (sup0 n) y.l2)) := ⟨(Su.counts_page hsok hsfit 1).2 (by rw [hgen]), fun h => Su.none_zeros 0 (by decide) h.1.1⟩
  refine ⟨⟨?_, ?_⟩, by rw [hblk, hDn], ⟨?_, by rw [hDn]; omega, by rw [hDn]; exact h1, by rw [hDn]; exact hf.len1, by rw [hDn]; exact hf.len2, ?_, ?_, ?_⟩, ?_⟩
  · rw [s0, s1]
    unfold psup
    rw [if_pos hlater]
    exact Su.sIn_page hsok
  · rw [s0, s1]
    unfold perr
    rw [if_pos hlater]
  · rw [hDn]
    exact hyn
  · intro j hj
    by_cases hj2 : j < y.l2.length
    · rw [leadS_mid hs18 j hj2, List.getD_eq_getElem?_getD, List.getElem?_eq_getElem hj2]
      rfl
    · rw [leadS_high hs18 hl2 (2 + j) (by omega), List.getD_eq_getElem?_getD, List.getElem?_eq_none (by omega)]
      match j, hj with
      | 0, _ => rfl
      | 1, _ => rfl
  · intro i hi
    have k := hlo (y.l1.length + i) (by rw [List.length_append]; omega)
    have kn := (hone (y.l1.length + i) (by rw [List.length_append]; omega)).2.1
    rw [e2 i] at k kn
    exact ⟨k, by rw [hDn]; exact kn, by rw [sb i hi, dir_now]⟩
  · intro i hi
    have k := hlo i (by rw [List.length_append]; omega)
    have kn := (hone i (by rw [List.length_append]; omega)).2.1
    rw [e1 i hi] at k kn
    exact ⟨k, by rw [hDn]; exact kn, by rw [sa i hi, part_now]⟩
  · exact hs.right
end Go.Proofs.YtogchamogbendaaGreat.Bs
