/- Pairs in memory; table.New. -/
import Derived.Test.YtbhajmecaemafaaTbC
import Derived.StillTailTactics
namespace Go.Proofs.Ytbhajmecaemafaa.Tb
open Go.RowKit Go.Proofs.Ytbhajmecaemafaa.Oct Go.Maps
set_option linter.unusedVariables false

theorem told_below {w w' : World} {a : Option Addr} {bs : List UInt8} (h : Oct.Told w a bs) (k : Below w.heap.size w w') : Oct.Told w' a bs := by
  rcases h with h | ⟨b, o', h, hh⟩
  · exact .inl h
  · by_cases h0 : bs = []
    · exact .inl h0
    · exact .inr ⟨b, o', h, hh.below (World.block_lt_of_cell? w _ (hh 0 (List.length_pos_iff.2 h0))) k⟩
/-- A pair as it stands in memory: where its bytes are, what they are, its fingerprint. -/
structure Pair where
  A : Option Addr
  n : Nat
  c : Nat
  bs : List UInt8
  pr : UInt64
def Pair.tell (p : Pair) : Pr := (p.bs, p.pr)
def tells (l : List Pair) : List Pr := l.map Pair.tell
theorem length_tells (l : List Pair) : (tells l).length = l.length := by simp [tells]
theorem tells_take (l : List Pair) (k : Nat) : tells (l.take k) = (tells l).take k := by simp [tells]
def pvals : List Pair → List Value
  | [] => []
  | p :: l => .slice p.A p.n p.c :: .int .u64 (p.pr.toNat : Int) :: pvals l
theorem length_pvals (l : List Pair) : (pvals l).length = 2 * l.length := by
  induction l with
  | nil => rfl
  | cons e es ih => simp [pvals, ih]; omega
theorem pvals_bytes (l : List Pair) (i : Nat) (h : i < l.length) : (pvals l)[2 * i]? = some (.slice l[i].A l[i].n l[i].c) := by
  induction l generalizing i with
  | nil => simp at h
  | cons e es ih =>
    cases i with
    | zero => rfl
    | succ i =>
      rw [show 2 * (i + 1) = 2 * i + 1 + 1 by omega]
      simp only [pvals, List.getElem?_cons_succ, List.getElem_cons_succ]
      exact ih i (by simpa using h)
theorem pvals_print (l : List Pair) (i : Nat) (h : i < l.length) : (pvals l)[2 * i + 1]? = some (.int .u64 (l[i].pr.toNat : Int)) := by
  induction l generalizing i with
  | nil => simp at h
  | cons e es ih =>
    cases i with
    | zero => rfl
    | succ i =>
      rw [show 2 * (i + 1) + 1 = 2 * i + 1 + 1 + 1 by omega]
      simp only [pvals, List.getElem?_cons_succ, List.getElem_cons_succ]
      exact ih i (by simpa using h)
theorem pvals_append (xs ys : List Pair) : pvals (xs ++ ys) = pvals xs ++ pvals ys := by
  induction xs with
  | nil => rfl
  | cons x xs ih => simp [pvals, ih]
theorem pvals_drop (es : List Pair) (k : Nat) : (pvals es).drop (2 * k) = pvals (es.drop k) := by
  induction es generalizing k with
  | nil => simp [pvals]
  | cons e es ih =>
    cases k with
    | zero => rfl
    | succ k =>
      rw [show 2 * (k + 1) = 2 * k + 1 + 1 by omega]
      simp only [pvals, List.drop_succ_cons, ih]
/-- What a pair's bytes are is told. -/
structure Pair.Ok (w : World) (p : Pair) : Prop where
  len : p.bs.length = p.n
  told : Oct.Told w p.A p.bs
  le : p.n ≤ maxLen
/-- A slice of pairs is told. -/
structure PIn (w : World) (A : Option Addr) (n c : Nat) (l : List Pair) : Prop where
  el : l.length = n
  kc : n ≤ c
  km : c ≤ maxLen
  ok : ∀ p ∈ l, p.Ok w
  lies : ToldV w A (pvals l)
  nil : A = none → c = 0
theorem Pair.Ok.below {w w' : World} {p : Pair} (h : p.Ok w) (k : Below w.heap.size w w') : p.Ok w' := ⟨h.len, told_below h.told k, h.le⟩
theorem PIn.below {w w' : World} {A : Option Addr} {n c : Nat} {l : List Pair} (h : PIn w A n c l) (k : Below w.heap.size w w') : PIn w' A n c l :=
  ⟨h.el, h.kc, h.km, fun p hp => (h.ok p hp).below k, h.lies.below k, h.nil⟩
theorem PIn.kept {w w' : World} {A : Option Addr} {n c : Nat} {l : List Pair} (h : PIn w A n c l) (k : Below w.heap.size w w') : PIn w' A n c l := h.below k
theorem PIn.at {w : World} {A : Option Addr} {n c k : Nat} {l : List Pair} (h : PIn w A n c l) (hk : k < n) :
    ∃ b o, A = some ⟨b, o, none⟩ ∧ b < w.heap.size ∧ w.cell? ⟨b, o + k * 2, none⟩ = some (.slice (l[k]'(by rw [h.el]; exact hk)).A (l[k]'(by rw [h.el]; exact hk)).n (l[k]'(by rw [h.el]; exact hk)).c) ∧
      w.cell? ⟨b, o + k * 2 + 1, none⟩ = some (.int .u64 ((l[k]'(by rw [h.el]; exact hk)).pr.toNat : Int)) := by
  have hl := length_pvals l
  have he := h.el
  obtain ⟨b, o, rfl, hb⟩ := h.lies.has (by omega)
  refine ⟨b, o, rfl, hb.lt (by omega), ?_, ?_⟩
  · rw [Nat.mul_comm]; exact hb.cellAt (pvals_bytes l k (by omega))
  · rw [Nat.mul_comm, Nat.add_assoc]; exact hb.cellAt (pvals_print l k (by omega))

theorem still_load {P : Program} {ops : Array Oper} {w : World} {Q : Act → Prop} {a : Act} {o : Oper} {rest : List Oper} (ty : TypeId) (x : Operand) (v p : Value)
    (hw : Region.wanted o (yielded ops a.tmps) = true) (ho : o.op = .load ty x) (hx : a.eval x = p) (hrun : (Instr.loadAt ty p).run P w = .ok v w) (h : wpStill P ops w Q rest (a.put o.dst v)) : wpStill P ops w Q (o :: rest) a := by
  refine wpStill_step fun K hK => ?_
  rw [if_pos hw]
  unfold Oper.still execOp
  simp only [ho, hx, Sem.run_bind, hrun, Result.andThen_ok, Sem.run_pure]
  exact (Oper.stillUpon_value o a w K _).mpr (hK _ h)

instance (ps : List Pr) : Decidable (Good ps) := decidable_of_iff ((∀ p ∈ ps, p.1.length = 128) ∧ (ps.map (·.1)).Nodup) ⟨fun h => ⟨h.1, h.2⟩, fun h => ⟨h.len, h.nodup⟩⟩
/-- Which error New has of these pairs. -/
def newErr (ps : List Pr) : Int := if 1000 < ps.length then 3 else if Good ps then 0 else 70
def NewPost (w : World) (ps : List Pr) (rest : UInt64) (e : Ending) (w' : World) : Prop :=
  if newErr ps = 0 then ∃ a b, e = .returned (.tuple #[.pointer (some ⟨a, 0, none⟩), .int .i64 0]) ∧ w.heap.size ≤ a ∧ w.heap.size ≤ b ∧ Tab w' a b ps rest ∧ Below w.heap.size w w'
  else e = .returned (.tuple #[.pointer none, .int .i64 (newErr ps)]) ∧ Below w.heap.size w w'
def blk (bs : List UInt8) : List UInt8 := if bs.length = 128 then bs else zeros
theorem len_blk (bs : List UInt8) : (blk bs).length = 128 := by
  unfold blk
  split
  · assumption
  · simp [zeros]
theorem blockOf_any (a : Option Addr) (n cap : Nat) (bs : List UInt8) (hl : bs.length = n) (w : World) (hb : Oct.Told w a bs) :
    Calls Try.prog 19 #[.slice a n cap] w fun e w' => e = .returned (.tuple #[.agg (vals (blk bs)).toArray, .bool (decide (n = 128))]) ∧ Below w.heap.size w w' := by
  subst hl
  by_cases h : bs.length = 128
  · have := blockOf_yes a cap bs h w hb
    unfold blk
    rw [if_pos h, decide_eq_true h, h]
    exact this
  · unfold blk
    rw [if_neg h, decide_eq_false h]
    exact blockOf_no a _ cap h w
theorem bad_step {l : List Pr} {k : Nat} (hk : k < l.length) (hn : l.length ≤ 1000) (h : ¬ (l[k].1.length = 128 ∧ isIn (l.take k) l[k].1 = false)) : newErr l = 70 := by
  unfold newErr
  rw [if_neg (by omega), if_neg]
  intro hg
  have := good_take hg (k + 1)
  rw [List.take_add_one, List.getElem?_eq_getElem hk] at this
  exact h (good_snoc.1 this).2
theorem run_makeMap_n (w : World) (i : Int) : (Instr.makeMap 45 (some (.int .i64 i))).run Try.prog w = .ok (.map (some w.heap.size)) (w.alloc (.map #[] 0)) := by
  simp [Instr.makeMap, run_underlying Try.underlying45, asInt, Result.andThen]
  rfl
theorem new_long {w : World} {A : Option Addr} {n c : Nat} (rest : UInt64) (hn : 1000 < n) :
    Calls Try.prog 10 #[.slice A n c, .int .u64 (rest.toNat : Int)] w fun e w' => e = .returned (.tuple #[.pointer none, .int .i64 3]) ∧ w = w' := by
  have hi : (1000 : Int) < (n : Int) := by omega
  go_enter Try.func10, Try.ntmps10
  go_wp2_with fail
  go_ret2
  exact ⟨rfl, rfl⟩
set_option maxRecDepth 100000 in
set_option maxHeartbeats 1000000 in
theorem new_any {w : World} {A : Option Addr} {n c : Nat} {l : List Pair} (h : PIn w A n c l) (rest : UInt64) :
    Calls Try.prog 10 #[.slice A n c, .int .u64 (rest.toNat : Int)] w (NewPost w (tells l) rest) := by
  have hl := h.el
  have hlt := length_tells l
  by_cases hn : 1000 < n
  · refine (new_long rest hn).mono ?_
    rintro e w' ⟨rfl, rfl⟩
    have e3 : newErr (tells l) = 3 := by unfold newErr; rw [if_pos (by omega)]
    unfold NewPost
    rw [e3, if_neg (by decide)]
    exact ⟨rfl, Below.refl _ _⟩
  · have hni : ¬ ((1000 : Int) < (n : Int)) := by omega
    have HP := Lib.hid h
    have HL := Lib.hid hl
    have hmk := run_makeMap_n w (n : Int)
    clear h hl hlt
    go_enter Try.func10, Try.ntmps10
    go_upto_region 4 with (fail)
    have B2 := ((Below.refl w.heap.size w).alloc (Nat.le_refl _) (.map #[] 0)).alloc (by simp) (.cells (tcells (w.heap.size + 1) w.heap.size rest none).toArray 47)
    have R2 := alloc_rowV (w.alloc (.map #[] 0)) 47 (tcells (w.heap.size + 1) w.heap.size rest none)
    have e1 : (w.alloc (.map #[] 0)).heap.size = w.heap.size + 1 := by simp
    rw [e1] at R2
    have M2 : Mp ((w.alloc (.map #[] 0)).alloc (.cells (tcells (w.heap.size + 1) w.heap.size rest none).toArray 47)) w.heap.size [] :=
      ⟨(World.ownsMap_made w Try.prog 51 (plainElem Try.prog 23)).alloc _, good_nil⟩
    clear e1 hmk
    change Code.wp _ _ _ _ ((w.alloc (.map #[] 0)).alloc (.cells (tcells (w.heap.size + 1) w.heap.size rest none).toArray 47))
    generalize (w.alloc (.map #[] 0)).alloc (.cells (tcells (w.heap.size + 1) w.heap.size rest none).toArray 47) = w2 at *
    obtain ⟨b, hb⟩ : ∃ b, b = w.heap.size := ⟨_, rfl⟩
    simp only [← hb] at R2 M2
    simp only [← hb]
    have HBB := Lib.hid hb
    have HR := Lib.hid R2
    have HM := Lib.hid M2
    have HB := Lib.hid B2
    clear hb R2 M2 B2
    go_wp2_with fail
    go_loopw [24] (fun i wr => ∃ k : Nat, k ≤ n ∧ i = .int .i64 (k : Int) ∧ Hid (RowV wr (b + 1) 47 (tcells (b + 1) b rest none)) ∧ Hid (Mp wr b ((tells l).take k)) ∧ Hid (Below w.heap.size w wr)) (fun i _ => n - (intOf i).toNat)
    case atStart => exact ⟨0, Nat.zero_le _, rfl, HR, HM, HB⟩
    case round =>
      obtain ⟨k, hk, rfl, HRr, HMr, HBr⟩ := hrel
      clear HR HM HB
      by_cases hlt : k < n
      · have hkl : k < l.length := by rw [HL.out]; exact hlt
        have hki : (k : Int) < (n : Int) := by omega
        obtain ⟨pb, po, hA, hpb, c1, c2⟩ := (HP.out.below HBr.out).at hlt
        subst hA
        have ok := ((HP.out.below HBr.out).ok l[k] (List.getElem_mem hkl))
        have HST := Lib.hid (show (tells l).take (k + 1) = (tells l).take k ++ [l[k].tell] by
          rw [List.take_add_one, List.getElem?_eq_getElem (by rw [length_tells]; exact hkl)]
          simp [tells])
        have HBAD := Lib.hid (show ¬ (l[k].bs.length = 128 ∧ isIn ((tells l).take k) l[k].bs = false) → newErr (tells l) = 70 from fun hh =>
          bad_step (k := k) (by rw [length_tells]; exact hkl) (by rw [length_tells, HL.out]; omega) (by simpa [tells, Pair.tell] using hh))
        have HPB := Lib.hid hpb
        generalize l[k] = p at c1 c2 ok HST HBAD
        have hpn := Lib.hid ok.len
        have hpt := Lib.hid ok.told
        clear hpb ok
        obtain ⟨pA, pn, pc, pbs, ppr⟩ := p
        simp only at c1 c2
        go_upto_region 7 with (fail)
        have B1 := (Below.refl wr.heap.size wr).alloc (Nat.le_refl _) (.cells #[.slice pA pn pc, .int .u64 (ppr.toNat : Int)] 28)
        have P1 := alloc_rowV wr 28 [.slice pA pn pc, .int .u64 (ppr.toNat : Int)]
        have PT1 := told_below hpt.out B1
        have S1 : (wr.alloc (.cells #[.slice pA pn pc, .int .u64 (ppr.toNat : Int)] 28)).heap.size = wr.heap.size + 1 := by simp
        clear c1 c2
        change RowV (wr.alloc (.cells #[.slice pA pn pc, .int .u64 (ppr.toNat : Int)] 28)) _ _ _ at P1
        generalize wr.alloc (.cells #[.slice pA pn pc, .int .u64 (ppr.toNat : Int)] 28) = w1 at *
        obtain ⟨v, hv⟩ : ∃ v, v = wr.heap.size := ⟨_, rfl⟩
        have d1 := P1.cellAt (i := 0) rfl
        rw [← hv] at P1 d1
        simp only [← hv]
        have HV := Lib.hid hv
        clear hv
        have HB1 := Lib.hid B1
        have HP1 := Lib.hid P1
        have HS1 := Lib.hid S1
        clear B1 P1 S1
        go_wp2_with fail
        refine (blockOf_any pA pn pc pbs hpn.out w1 PT1).mono ?_
        rintro e w2' ⟨rfl, B2⟩
        clear PT1 d1
        have hz := zero_block'
        have R3 := alloc_rowV w2' 51 (vals zeros)
        have B3 := B2.alloc B2.size (.cells (vals zeros).toArray 51)
        have B3' := B3.trans (setRow_below _ w2'.heap.size (vals (blk pbs)).toArray B2.size)
        have HR3 := Lib.hid R3
        have hs2 := B2.size
        go_upto_region 8 with (refine wpList_store_row rfl 51 (.tmp 9) (.tmp 32) rfl w2'.heap.size (vals (blk pbs)).toArray rfl rfl _ _ HR3.out (size_bvals (len_blk pbs)) (by simp [length_vals, len_blk, zeros]) (one_bvals _) ?_)
        have R4 := R3.setRow (vals (blk pbs))
        clear R3 HR3 hz B3 B2
        generalize (w2'.alloc (.cells (vals zeros).toArray 51)).setRow w2'.heap.size (vals (blk pbs)).toArray = w4 at *
        have HB4 := Lib.hid (HB1.out.trans (B3'.mono HB1.out.size))
        have HP4 := Lib.hid (HP1.out.below (by rw [HS1.out, HV.out]; omega) B3')
        have M4 := HMr.out.below HMr.out.lt HB4.out
        have T4 := HRr.out.below HRr.out.lt HB4.out
        have HV4 := Lib.hid (show wr.heap.size ≤ w2'.heap.size from by have := HS1.out; omega)
        have HR4 := Lib.hid R4
        have hld : ∀ w', (∃ n, w' = w4.drewN n) → (Instr.loadAt 51 (.pointer (some ⟨w2'.heap.size, 0, none⟩))).run Try.prog w' = .ok (.agg (vals (blk pbs)).toArray) w' := by
          rintro w' ⟨m, rfl⟩
          exact load_block (show RowV (w4.drewN m) w2'.heap.size _ _ from R4) (len_blk pbs)
        have hlk : ∀ m, (Instr.lookup 45 (.map (some b)) (.agg (vals (blk pbs)).toArray) true).run Try.prog (w4.drewN m) = .ok (.tuple #[.int .u64 (((seek ((tells l).take k) (blk pbs)).getD 0).toNat : Int), .bool (isIn ((tells l).take k) (blk pbs))]) (w4.drewN m) :=
          fun m => (M4.at (w' := w4.drewN m) rfl).look _ (len_blk pbs)
        have c0 : w4.cell? ⟨b + 1, 0, none⟩ = some (.map (some b)) := T4.cellAt rfl
        have HLD := Lib.hid hld
        have HM4 := Lib.hid M4
        have HT4 := Lib.hid T4
        clear M4 T4 R4 hld B3' hs2 HB1 HP1 HRr HMr
        generalize w2'.heap.size = q at *
        generalize (seek ((tells l).take k) (blk pbs)).getD 0 = sk at *
        refine wp_region_quiet_lit (by kernel_rfl) (by kernel_rfl) ?_
        repeat (first | (refine quiet_load 51 (.tmp 9) (.agg (vals (blk pbs)).toArray) _ (by kernel_rfl) rfl rfl HLD.out ?_; go_frame) | go_big_quiet_step (fail))
        refine wpQuiet_nil ?_
        rintro _ ⟨nq, rfl⟩
        clear hlk c0 HLD
        have HB5 := Lib.hid ((HBr.out.trans (HB4.out.mono HBr.out.size)).trans ((Still.drewN w4 nq).below _))
        have HBB5 := Lib.hid (HB4.out.trans ((Still.drewN w4 nq).below _))
        have HT5 := Lib.hid (show RowV (w4.drewN nq) (b + 1) _ _ from HT4.out)
        have HM5 := Lib.hid (HM4.out.at (w' := w4.drewN nq) rfl)
        have HR5 := Lib.hid (show RowV (w4.drewN nq) q _ _ from HR4.out)
        have HP5 := Lib.hid (show RowV (w4.drewN nq) v _ _ from HP4.out)
        clear HB4 HT4 HM4 HR4 HP4 HBr
        generalize w4.drewN nq = w5 at *
        by_cases hpn2 : pn = 128
        · have hbl : blk pbs = pbs := by unfold blk; rw [if_pos (hpn.out.trans hpn2)]
          rw [hbl] at HR5
          rw [hbl, decide_eq_true hpn2]
          rcases hin : isIn ((tells l).take k) pbs with _ | _
          · go_upto_region 11 with (fail)
            have k0 : w5.drew.cell? ⟨b + 1, 0, none⟩ = some (.map (some b)) := HT5.out.cellAt rfl
            have k1 : w5.drew.cell? ⟨v, 1, none⟩ = some (.int .u64 (ppr.toNat : Int)) := HP5.out.cellAt rfl
            have hld : (Instr.loadAt 51 (.pointer (some ⟨q, 0, none⟩))).run Try.prog w5.drew = .ok (.agg (vals pbs).toArray) w5.drew :=
              load_block (show RowV w5.drew q _ _ from HR5.out) (hpn.out.trans hpn2)
            have HLD := Lib.hid hld
            have hown := (HM5.out.at (w' := w5.drew) rfl).own
            have hle : ((tells l).take k).length = k := by rw [List.length_take, length_tells, HL.out]; omega
            rw [hle] at hown
            have HW := Lib.hid hown
            clear hld hle hown
            refine wp_region_still_tail 7 (by kernel_rfl) (by kernel_rfl) ?_
            simp only [List.take_succ_cons, List.take_zero, List.drop_succ_cons, List.drop_zero]
            repeat (first | (refine still_load 51 (.tmp 9) (.agg (vals pbs).toArray) _ (by kernel_rfl) rfl rfl HLD.out ?_; go_frame) | still_step)
            refine wpStill_nil ?_
            refine wpList_mapUpdate_own _ rfl _ _ _ 45 rfl 51 23 block_law Try.underlying45 _ b k _ rfl HW.out (by unfold maxLen; omega) _ _ (bkey pbs) rfl rfl (bkey_of pbs (hpn.out.trans hpn2)) (pdat ppr) [] (plainElem_int Try.underlying23 (word_wf ppr)) ?_
            intro w6 hown6 hgrow6
            have HM6 := Lib.hid (show Mp w6 b ((tells l).take (k + 1)) from by
              have hle : ((tells l).take (k + 1)).length = k + 1 := by rw [List.length_take, length_tells, HL.out]; omega
              refine ⟨?_, ?_⟩
              · rw [hle, HST.out, Dm_snoc]
                exact hown6
              · rw [HST.out]
                exact good_snoc.2 ⟨HM5.out.good, hpn.out.trans hpn2, hin⟩)
            have HT6 := Lib.hid (HT5.out.block ((hgrow6.block (b + 1) HT5.out.lt (by simp))))
            have HB6 := Lib.hid (show Below w.heap.size w w6 from (HB5.out.trans ((show Still w5 w5.drew from ⟨rfl, rfl, rfl, rfl⟩).below _)).grown hgrow6 (show w.heap.size ≤ w5.heap.size from HB5.out.size) (fun j hj => by cases hj; rw [HBB.out]; exact Nat.le_refl _))
            clear hown6 hgrow6 HW HLD k0 k1
            go_frame
            go_wp2_with fail
            go_roundw
            case rel => exact ⟨k + 1, by omega, by go_num, HT6, HM6, HB6⟩
            case measure => simp [intOf]; omega
          · have HE := Lib.hid (HBAD.out (fun hh => by rw [hin] at hh; cases hh.2))
            go_wp2_with fail
            go_ret2
            unfold NewPost
            rw [HE.out, if_neg (by decide)]
            exact ⟨rfl, HB5.out⟩
        · have HE := Lib.hid (HBAD.out (fun hh => hpn2 (hpn.out.symm.trans hh.1)))
          rw [decide_eq_false hpn2]
          go_wp2_with fail
          go_ret2
          unfold NewPost
          rw [HE.out, if_neg (by decide)]
          exact ⟨rfl, HB5.out⟩
      · obtain rfl : k = n := by omega
        have e0 : (tells l).take l.length = tells l := List.take_of_length_le (by rw [length_tells]; exact Nat.le_refl _)
        have hM := HMr.out
        rw [← HL.out, e0] at hM
        have HMe := Lib.hid hM
        have c2 := HRr.out.cellAt (i := 2) rfl
        have f2 := HRr.out.free 2
        have HN := Lib.hid (show newErr (tells l) = 0 by
          unfold newErr
          rw [if_neg (by rw [length_tells, HL.out]; omega), if_pos hM.good])
        clear hM e0
        go_wp2_with fail
        go_ret2
        unfold NewPost
        rw [if_pos HN.out]
        have hne : b ≠ b + 1 := by omega
        refine ⟨b + 1, b, rfl, by rw [HBB.out]; omega, by rw [HBB.out]; exact Nat.le_refl _, ⟨HRr.out.set 2 _, HMe.out.at (heap_setCell_other _ _ _ _ (by exact hne)), by rw [length_tells, HL.out]; omega⟩, HBr.out.setCell (by rw [HBB.out]; simp) _⟩
end Go.Proofs.Ytbhajmecaemafaa.Tb
