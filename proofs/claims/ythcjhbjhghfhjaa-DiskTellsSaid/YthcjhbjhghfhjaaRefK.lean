/- The reference's disk: Crash. -/
import Derived.Test.YthcjhbjhghfhjaaRefJ
import Derived.Test.YthcjhbjhghfhjaaInv2
import Derived.Deep.RegionHeld3
import Derived.Deep.RegionLaw
import Derived.Deep.AppendLies
import Derived.Deep.DeepCutAuto
namespace Go.Proofs.Ythcjhbjhghfhjaa.Dsk
open Go.RowKit Go.Proofs.Ythcjhbjhghfhjaa.Oct
set_option linter.unusedVariables false

theorem keep_rq {w w' : World} {base q : Nat} {cs : Array Value} (h : w.heap[q]? = some (.cells cs 37 (0, 0))) (hb : Turned rT base w w') : w'.heap[q]? = some (.cells cs 37 (0, 0)) :=
  (hb.block q (Array.getElem?_eq_some_iff.1 h).1 (.inr fun cs t fr hc => by rw [h] at hc; cases hc; rfl)).trans h
theorem Flags.early {w w' : World} {base : Nat} {A : Option Addr} {ks : List Bool} (h : Flags w A ks) (ha : ks = [] ∨ ∀ x, A = some x → x.block < base) (hb : Turned rT base w w') : Flags w' A ks := by
  rcases ha with rfl | ha
  · exact .inl rfl
  rcases h with h | ⟨b, o, rfl, k⟩
  · exact .inl h
  · refine .inr ⟨b, o, rfl, fun i hi => ?_⟩
    have h1 := k i hi
    have hlt := World.block_lt_of_cell? w _ h1
    exact (World.cell?_of_block (hb.block b hlt (.inl (ha _ rfl)))).trans h1
theorem txt_head (xs : List UInt8) (n : Nat) : (ByteArray.mk xs.toArray).extract 0 n = ByteArray.mk (xs.take n).toArray := by
  apply ByteArray.ext
  simp
theorem txt_tail (xs : List UInt8) (n : Nat) : (ByteArray.mk xs.toArray).extract n xs.length = ByteArray.mk (xs.drop n).toArray := by
  apply ByteArray.ext
  simp
  exact List.take_of_length_le (by simp)
theorem own_oneT (w : World) (base : Nat) (hb : base ≤ w.heap.size) (p : Int) (T : ByteArray) : (w.alloc (.cells #[.int .i64 p, .string T] 99)).ownsRow base 99 2 (.slice (some ⟨w.heap.size, 0, none⟩) 1 1) 1 [.int .i64 p, .string T] :=
  ⟨rfl, .inr ⟨w.heap.size, 1, _, rfl, hb, heap_alloc_new w _, Nat.le_refl _, by unfold maxLen; omega, rfl, rfl⟩⟩
theorem wait_oneT (p : Int) (T : ByteArray) (u : Value) (hu : u ∈ ([.int .i64 p, .string T] : List Value)) : u.oneCell' = true := by
  simp only [List.mem_cons, List.mem_nil_iff, or_false] at hu
  rcases hu with rfl | rfl <;> rfl
theorem size_alloc (w : World) (o : Obj) : (w.alloc o).heap.size = w.heap.size + 1 := by show (w.heap.push _).size = _; exact Array.size_push _
theorem size_drew (w : World) : w.drew.heap.size = w.heap.size := rfl
theorem step_appw {ops : Array Oper} {o : Oper} {a : Act} {w : World} {K : Act → World → Prop} {Q : Exit → Act → World → Prop} {E : Prop} (hgd : o.guard = none) (s x : Operand)
    (ho : o.op = .call { callee := .builtin .append, args := #[s, x], argTypes := #[28, 28] }) {base base2 n0 n2 : Nat} {v0 v2 : Value} {xs ys : List Value} (hs : a.eval s = v0) (hx : a.eval x = v2)
    (h0 : w.ownsRow base 99 2 v0 n0 xs) (h2 : w.ownsRow base2 99 2 v2 n2 ys) (h1 : ∀ u ∈ ys, u.oneCell' = true) (hb : n0 + n2 ≤ 3000000) (hbase : base ≤ w.heap.size)
    (h : ∀ A c w', w'.ownsRow base 99 2 (.slice A (n0 + n2) c) (n0 + n2) (xs ++ ys) → w.grownBy w' v0.ownBlock → (∀ k, v0.ownBlock = some k → base ≤ k) → K (a.put o.dst (.slice A (n0 + n2) c)) w') : if Region.wanted o (yielded ops a.tmps) = true then Oper.wp Try.prog o a w K Q else E :=
  step_app hgd s x ho hs hx h0 h2 h1 hb hbase fun A c w' ho' hg' => h A c w' ho' hg' fun k hk => (World.ownsRow.lt h0 k hk).1
theorem step_app0w {ops : Array Oper} {o : Oper} {a : Act} {w : World} {K : Act → World → Prop} {Q : Exit → Act → World → Prop} {E : Prop} (hgd : o.guard = none) (s x : Operand)
    (ho : o.op = .call { callee := .builtin .append, args := #[s, x], argTypes := #[28, 28] }) {base base2 n2 : Nat} {v0 v2 : Value} {ys : List Value} (hs : a.eval s = v0) (hx : a.eval x = v2)
    (h0 : w.ownsRow base 99 2 v0 0 []) (h2 : w.ownsRow base2 99 2 v2 n2 ys) (h1 : ∀ u ∈ ys, u.oneCell' = true) (hb : n2 ≤ 3000000) (hbase : base ≤ w.heap.size)
    (h : ∀ A c w', w'.ownsRow base 99 2 (.slice A n2 c) n2 ys → w.grownBy w' v0.ownBlock → (∀ k, v0.ownBlock = some k → base ≤ k) → K (a.put o.dst (.slice A n2 c)) w') : if Region.wanted o (yielded ops a.tmps) = true then Oper.wp Try.prog o a w K Q else E :=
  step_app0 hgd s x ho hs hx h0 h2 h1 hb hbase fun A c w' ho' hg' => h A c w' ho' hg' fun k hk => (World.ownsRow.lt h0 k hk).1
theorem run_head (xs : List UInt8) (n : Nat) (h : n ≤ xs.length) (w : World) : (Instr.slice 9 (.string ⟨xs.toArray⟩) none (some (.int .i64 (n : Int))) none).run Try.prog w = .ok (.string ⟨(xs.take n).toArray⟩) w := by
  have := run_slice_string_h (P := Try.prog) w 9 ⟨xs.toArray⟩ Try.underlying9 .i64 (n : Int) (by omega) (by rw [string_size]; omega)
  rw [Int.toNat_natCast, txt_head] at this
  exact this
theorem run_tail (xs : List UInt8) (n : Nat) (h : n ≤ xs.length) (w : World) : (Instr.slice 9 (.string ⟨xs.toArray⟩) (some (.int .i64 (n : Int))) none none).run Try.prog w = .ok (.string ⟨(xs.drop n).toArray⟩) w := by
  have := run_slice_string_l (P := Try.prog) w 9 ⟨xs.toArray⟩ Try.underlying9 .i64 (n : Int) (by omega) (by rw [string_size]; omega)
  rw [Int.toNat_natCast, string_size, txt_tail] at this
  exact this

theorem wp_append_run {P : Program} {w : World} {o : Oper} {a : Act} {K : Act → World → Prop} {Q : Exit → Act → World → Prop} (s x : Operand) (t : TypeId)
    (ho : o.op = .call { callee := .builtin .append, args := #[s, x], argTypes := #[t, t] }) (v1 v2 : Value) (hs : a.eval s = v1) (hx : a.eval x = v2) (v' : Value) (w' : World)
    (hrun : (Builtin.append_ #[t, t] o.type #[v1, v2]).run P w = .ok v' w') (h : K (a.put o.dst v') w') : o.wp P a w K Q := by
  unfold Oper.wp
  simp [execOp, ho, resolve, invoke, builtin, hs, hx, hrun, Result.andThen]
  exact h
set_option maxRecDepth 100000 in
set_option maxHeartbeats 60000000 in
theorem rcrash_ok {w : World} {base rb : Nat} {cv wv : Value} {r : Rf} (h : RAt w base rb cv wv r) (hW : r.Whole) (hfew : r.came.length + r.waits.length ≤ 1000000) (KA : Option Addr) (len kc : Nat) (ks : List Bool) (hlen : ks.length = len) (torn : Int) (cut : Nat) (hcut : cut ≤ 128) (hm : len ≤ maxLen) (hk : Flags w KA ks) (hka : ks = [] ∨ ∀ x, KA = some x → x.block < base) :
    Calls Try.prog 34 #[.pointer (some ⟨rb, 0, none⟩), .agg #[.slice KA len kc, .int .i64 torn, .int .i64 (cut : Int)]] w fun e w' => e = .returned (.int .i64 0) ∧ RIs w' base rb (r.crashed ks torn cut) ∧ Turned rT base w w' := by
  have hbw : base ≤ w.heap.size := by have := h.lo; have := h.lt; omega
  have B1 := (Below.refl w.heap.size w).alloc (Nat.le_refl _) (.cells #[.slice KA len kc, .int .i64 torn, .int .i64 (cut : Int)] 37)
  have A1 := h.below B1
  have T1 : Turned rT base w _ := Turned.of_below B1
  have K1 := hk.below (B := 0) B1
  have hq := heap_alloc_new w (.cells #[.slice KA len kc, .int .i64 torn, .int .i64 (cut : Int)] 37)
  go_enter Try.func34, Try.ntmps34
  go_wp2_with fail
  generalize w.alloc (.cells #[.slice KA len kc, .int .i64 torn, .int .i64 (cut : Int)] 37) = w1 at *
  obtain ⟨q, hqq⟩ : ∃ q, q = w.heap.size := ⟨_, rfl⟩
  rw [← hqq] at hq ⊢
  have hqb : base ≤ q := by omega
  clear hqq B1 hbw
  have q0 := cell_of_row w1 q 0 _ _ _ hq
  have q1 := cell_of_row w1 q 1 _ _ _ hq
  have q2 := cell_of_row w1 q 2 _ _ _ hq
  simp only [List.getElem?_toArray, List.getElem?_cons_zero, List.getElem?_cons_succ] at q0 q1 q2
  have HH := Lib.hid hq
  have HT1 := Lib.hid T1
  have HK1 := Lib.hid K1
  have HKA := Lib.hid hka
  have HA1 := Lib.hid A1
  have HL := Lib.hid hlen
  have HWH := Lib.hid hW
  obtain ⟨A, cap, rfl, hc1, hc2, hA⟩ := own_form A1.waits
  unfold maxLen at hc2 hm
  have HAA := Lib.hid hA
  have HF := Lib.hid hfew
  have hwl := A1.few.2
  have hcut2 : (cut : Int) ≤ 128 := by omega
  have hcut0 : ¬ ((cut : Int) < 0) := by omega
  clear hq T1 K1 A1 hlen h hk hka hA hW hfew
  go_wp2_with fail
  go_loopw [5] (fun i wr => ∃ k : Nat, k ≤ r.waits.length ∧ i = .int .i64 (k : Int) ∧ Hid (∃ cv', RAt wr base rb cv' (.slice A r.waits.length cap) (rlaid r (thr ks torn cut) k)) ∧ Turned rT base w1 wr) (fun i _ => r.waits.length - (intOf i).toNat)
  case atStart => exact ⟨0, Nat.zero_le _, rfl, Lib.hid ⟨cv, HA1.out⟩, Turned.refl _ _ _⟩
  case round =>
    obtain ⟨k, hk, rfl, HR, hT⟩ := hrel
    obtain ⟨cv', R3⟩ := HR.out
    have HT := Lib.hid hT
    have HQR := Lib.hid (keep_rq HH.out hT)
    clear q0 q1 q2
    have q0 := cell_of_row wr q 0 _ _ _ HQR.out
    have q1 := cell_of_row wr q 1 _ _ _ HQR.out
    have q2 := cell_of_row wr q 2 _ _ _ HQR.out
    simp only [List.getElem?_toArray, List.getElem?_cons_zero, List.getElem?_cons_succ] at q0 q1 q2
    have HKR := Lib.hid (HK1.out.early HKA.out hT)
    have c2 := R3.c2
    have HR3 := Lib.hid R3
    clear hT HR R3
    by_cases hlt : k < r.waits.length
    · have hki : (k : Int) < (r.waits.length : Int) := by omega
      obtain ⟨g, rfl, _, _⟩ := HAA.out (by omega)
      have d := own_wait (l := r.waits) (by have := HR3.out.waits; rw [(rlaid_frame _ _ _).2] at this; exact this) k hlt
      have d1 := d.1
      have d2 := d.2
      have c1 := HR3.out.c1
      have hx128 := Lib.hid (HWH.out.2 r.waits[k] (List.getElem_mem hlt))
      have HLS := Lib.hid (rlaid_step r (thr ks torn cut) k hlt)
      generalize r.waits[k] = x at d1 d2 hx128 HLS
      obtain ⟨xp, xs⟩ := x
      clear d
      unfold txt at d2
      have HKS := Lib.hid (show ∀ w', Below wr.heap.size wr w' → (w'.cell? ⟨rb, 1, none⟩ = some cv' ∧ w'.cell? ⟨rb, 2, none⟩ = some (.slice (some ⟨g, 0, none⟩) r.waits.length cap)) ∧ (w'.cell? ⟨q, 0, none⟩ = some (.slice KA len kc) ∧ w'.cell? ⟨q, 1, none⟩ = some (.int .i64 torn) ∧ w'.cell? ⟨q, 2, none⟩ = some (.int .i64 (cut : Int))) from
        fun w' b => ⟨⟨(b.cell (World.block_lt_of_cell? _ _ c1)).trans c1, (b.cell (World.block_lt_of_cell? _ _ c2)).trans c2⟩, (b.cell (World.block_lt_of_cell? _ _ q0)).trans q0, (b.cell (World.block_lt_of_cell? _ _ q1)).trans q1, (b.cell (World.block_lt_of_cell? _ _ q2)).trans q2⟩)
      go_upto_region 7 with (fail)
      have BX := (Below.refl wr.heap.size wr).alloc (Nat.le_refl _) (.cells #[.int .i64 (xp : Int), .string ⟨xs.toArray⟩] 99)
      have hx := heap_alloc_new wr (.cells #[.int .i64 (xp : Int), .string ⟨xs.toArray⟩] 99)
      clear q0 q1 q2 c1 c2 d1 d2
      generalize wr.alloc (.cells #[.int .i64 (xp : Int), .string ⟨xs.toArray⟩] 99) = wx at *
      obtain ⟨v, hv⟩ : ∃ v, v = wr.heap.size := ⟨_, rfl⟩
      rw [← hv] at hx ⊢
      have hvb := Lib.hid (show v = wr.heap.size from hv)
      clear hv
      have x0 := cell_of_row wx v 0 _ _ _ hx
      have x1 := cell_of_row wx v 1 _ _ _ hx
      simp only [List.getElem?_toArray, List.getElem?_cons_zero, List.getElem?_cons_succ] at x0 x1
      obtain ⟨⟨c1, c2⟩, q0, q1, q2⟩ := HKS.out _ BX
      have HX := Lib.hid hx
      have HBX := Lib.hid BX
      clear hx BX
      go_upto_region 8 with (fail)
      go_cut [43] (fun s43 wy => s43 = .bool (decide (ks[k]? = some true)) ∧ wy = wx)
      case first =>
        by_cases h2 : k < len
        · have h2i : (k : Int) < (len : Int) := by omega
          have hne : ks ≠ [] := fun h => by have := HL.out; rw [h] at this; simp at this; omega
          obtain ⟨b, o, hA, hc⟩ := (HKR.out.below (B := 0) HBX.out).resolve_left hne
          have hc := hc k (by rw [HL.out]; exact h2)
          subst hA
          have HT := Lib.hid (show decide (ks[k]? = some true) = ks[k]'(by rw [HL.out]; exact h2) by rw [List.getElem?_eq_getElem (by rw [HL.out]; exact h2)]; simp)
          clear hne
          generalize ks[k]'(by rw [HL.out]; exact h2) = f at hc HT
          go_wp2_with fail
          go_meet
          exact ⟨by rw [HT.out], rfl⟩
        · have h2i : decide ((k : Int) < (len : Int)) = false := by simp; omega
          have HT := Lib.hid (show decide (ks[k]? = some true) = false by rw [List.getElem?_eq_none (by rw [HL.out]; omega)]; rfl)
          go_wp2_with fail
          go_meet
          exact ⟨by rw [HT.out], rfl⟩
      case rest =>
        obtain ⟨rfl, rfl⟩ := hcut
        go_upto_if 43 with (fail)
        go_cut [7] (fun s7 wy => ∃ m : Nat, s7 = .int .i64 (m : Int) ∧ Hid ((if ks[k]? = some true then 128 else 0 : Nat) = m) ∧ wy = wc)
        case first =>
          by_cases hf : ks[k]? = some true
          · rw [decide_eq_true hf]
            have HT := Lib.hid (show (if ks[k]? = some true then 128 else 0 : Nat) = 128 by rw [if_pos hf])
            clear hf
            go_wp2_with fail
            go_meet
            exact ⟨_, rfl, HT, rfl⟩
          · rw [decide_eq_false hf]
            have HT := Lib.hid (show (if ks[k]? = some true then 128 else 0 : Nat) = 0 by rw [if_neg hf])
            clear hf
            go_wp2_with fail
            go_meet
            exact ⟨_, rfl, HT, rfl⟩
        case rest =>
          obtain ⟨m, rfl, HM, rfl⟩ := hcut
          go_upto_if 47 with (fail)
          go_cut [7] (fun s7 wy => s7 = .int .i64 ((thr ks torn cut k : Nat) : Int) ∧ wy = wc)
          case first =>
            by_cases hf : (k : Int) = torn
            · have e1 : ((k : Int) == torn) = true := by simpa using hf
              have HT := Lib.hid (show thr ks torn cut k = cut by unfold thr; rw [if_pos hf])
              clear hf
              rw [e1]
              go_wp2_with fail
              go_meet
              exact ⟨by rw [HT.out], rfl⟩
            · have e1 : ((k : Int) == torn) = false := by simpa using hf
              have HT := Lib.hid (show thr ks torn cut k = m by unfold thr; rw [if_neg hf]; exact HM.out)
              clear hf
              rw [e1]
              go_wp2_with fail
              go_meet
              exact ⟨by rw [HT.out], rfl⟩
          case rest =>
            obtain ⟨rfl, rfl⟩ := hcut
            obtain ⟨wa, hwa⟩ : ∃ x, x = wc := ⟨_, rfl⟩
            subst hwa
            have hn : thr ks torn cut k ≤ 128 := by unfold thr; split <;> (try split) <;> omega
            have HRA := Lib.hid (show ∀ w', Below wa.heap.size wa w' → RAt w' base rb cv' (.slice (some ⟨g, 0, none⟩) r.waits.length cap) (rlaid r (thr ks torn cut) k) from fun w' b => (HR3.out.below HBX.out).below b)
            have HLN := Lib.hid (stands_len _ (rlaid_whole r HWH.out (thr ks torn cut) (fun i => by unfold thr; split <;> (try split) <;> omega) k) xp)
            have HCN := Lib.hid (rlaid_count r (thr ks torn cut) k hk)
            have HTA := Lib.hid (HT.out.trans (Turned.of_below HBX.out))
            generalize hnn : thr ks torn cut k = n at hn HLS ⊢
            have HNN := Lib.hid hnn
            clear hnn
            generalize hrr : rlaid r (thr ks torn cut) k = R at HRA HLN HCN HLS HR3 ⊢
            have HRR := Lib.hid hrr
            clear hrr q0 q1 q2 c2 hki
            have HKW := Lib.hid (show ∀ w', Below wa.heap.size wa w' → (w'.cell? ⟨rb, 1, none⟩ = some cv' ∧ w'.cell? ⟨v, 0, none⟩ = some (.int .i64 (xp : Int))) ∧ (w'.cell? ⟨v, 1, none⟩ = some (.string ⟨xs.toArray⟩) ∧ w'.frozen? ⟨rb, 1, none⟩ = false) from
              fun w' b => ⟨⟨(HRA.out w' b).c1, (b.cell (World.block_lt_of_cell? _ _ x0)).trans x0⟩, (b.cell (World.block_lt_of_cell? _ _ x1)).trans x1, (HRA.out w' b).f 1⟩)
            have HS1 := Lib.hid (show xs.length = 128 from hx128.out)
            have HH1 := Lib.hid (fun w' => run_head xs n (by have := HS1.out; omega) w')
            generalize hst : R.stands xp = st at HLN HLS
            have HST := Lib.hid hst
            have HH2 := Lib.hid (fun w' => run_tail st n (by have := HLN.out; omega) w')
            clear hst
            have HSUM := Lib.hid (show ¬ (9223372036854775807 < min n xs.length + (st.length - n)) by have := HS1.out; have := HLN.out; omega)
            have HON := Lib.hid (wz_one R.came)
            have HCW := Lib.hid (fun (w' : World) (b : Below wa.heap.size wa w') => (HRA.out w' b).came)
            generalize hys : wz R.came = ys at HON HCW
            generalize hnl : R.came.length = nC at HCW HCN
            have HN1 := Lib.hid (show nC + 1 ≤ 1000000 by have := HCN.out; have := HF.out; omega)
            have HBW := Lib.hid (show base ≤ wa.heap.size by have h5 := HR3.out.lo; have h6 := HR3.out.lt; have h7 := HBX.out.size; omega)
            have HRB := Lib.hid HR3.out.lo
            have HYS := Lib.hid (And.intro hys hnl)
            clear hys hnl
            have HX0 := Lib.hid x0
            have HX1 := Lib.hid x1
            clear x0 x1 c1
            go_upto_region 12 with (fail)
            refine Inv2.wp_region_inv (fun b a wy => ∃ z50 z51 z52 z53 z54 z55 z56 z57 z58 z59 z60 z61 z62 z63 z64 z65 z66 z67 z68 z69 z70 z71 z72 z73 z74, a = ⟨(List.toArray (Value.pointer (some { block := rb, off := 0 }) :: Value.agg #[Value.slice KA len kc, Value.int IntKind.i64 torn, Value.int IntKind.i64 ↑cut] :: undef :: Value.pointer (some { block := q, off := 0 }) :: Value.int IntKind.i64 0 :: Value.int IntKind.i64 ↑k :: Value.pointer (some { block := v, off := 0 }) :: Value.int IntKind.i64 ↑n :: Value.pointer (some { block := q, off := 2 }) :: Value.int IntKind.i64 ↑cut :: Value.bool (decide ((cut : Int) < 0)) :: Value.bool (decide ((cut : Int) < 0)) :: Value.pointer (some { block := q, off := 2 }) :: Value.int IntKind.i64 ↑cut :: Value.bool (decide ((128 : Int) < (cut : Int))) :: Value.bool (decide ((cut : Int) < 0) || decide ((128 : Int) < (cut : Int))) :: u16 :: u17 :: u18 :: u19 :: u20 :: u21 :: u22 :: u23 :: u24 :: u25 :: u26 :: u27 :: u28 :: u29 :: u30 :: u31 :: u32 :: u33 :: u34 :: u35 :: u36 :: u37 :: u38 :: u39 :: u40 :: u41 :: u42 :: u43 :: u44 :: u45 :: u46 :: u47 :: u48 :: u49 :: z50 :: z51 :: z52 :: z53 :: z54 :: z55 :: z56 :: z57 :: z58 :: z59 :: z60 :: z61 :: z62 :: z63 :: z64 :: z65 :: z66 :: z67 :: z68 :: z69 :: z70 :: z71 :: z72 :: z73 :: z74 :: undef :: undef :: undef :: undef :: undef :: undef :: undef :: undef :: undef :: [])), []⟩ ∧ Hid ((b 0 = true → z50 = Value.pointer (some { block := rb, off := 0 })) ∧ (b 2 = true → z52 = Value.pointer (some { block := rb, off := 0 })) ∧ (b 3 = true → z53 = .pointer (some ⟨rb, 0, none⟩)) ∧ (b 4 = true → z54 = .pointer (some ⟨rb, 1, none⟩)) ∧ (b 5 = true → z55 = cv') ∧ (b 7 = true → z57 = .pointer (some ⟨v, 0, none⟩)) ∧ (b 8 = true → z58 = .int .i64 (xp : Int)) ∧ (b 9 = true → z59 = .pointer (some ⟨v, 1, none⟩)) ∧ (b 10 = true → z60 = .string ⟨xs.toArray⟩) ∧ (b 11 = true → z61 = Value.int IntKind.i64 ↑n) ∧ (b 12 = true → z62 = .string ⟨(xs.take n).toArray⟩) ∧ (b 13 = true → z63 = Value.pointer (some { block := rb, off := 0 })) ∧ (b 14 = true → z64 = .pointer (some ⟨v, 0, none⟩)) ∧ (b 15 = true → z65 = .int .i64 (xp : Int)) ∧ (b 16 = true → z66 = .string ⟨st.toArray⟩) ∧ (b 17 = true → z67 = Value.int IntKind.i64 ↑n) ∧ (b 18 = true → z68 = .string ⟨(st.drop n).toArray⟩) ∧ (b 19 = true → z69 = .string (⟨(xs.take n).toArray⟩ ++ ⟨(st.drop n).toArray⟩)) ∧ (b 20 = true → z70 = .agg #[.int .i64 (xp : Int), .string (⟨(xs.take n).toArray⟩ ++ ⟨(st.drop n).toArray⟩)]) ∧ (b 23 = true → z73 = .pointer (some ⟨rb, 0, none⟩)) ∧ (b 24 = true → z74 = .pointer (some ⟨rb, 1, none⟩))) ∧ Hid (Below base wa wy) ∧ Hid ((b 25 = false → Below wa.heap.size wa wy) ∧ (b 1 = true → b 6 = false → ∃ q0, z51 = .slice (some ⟨q0, 0, none⟩) 0 0 ∧ wy.ownsRow wa.heap.size 99 2 (.slice (some ⟨q0, 0, none⟩) 0 0) (0) ([])) ∧ (b 6 = true → b 22 = false → ∃ A1 k1, z56 = .slice A1 nC k1 ∧ wy.ownsRow wa.heap.size 99 2 (.slice A1 nC k1) (nC) (ys)) ∧ (b 21 = true → b 22 = false → ∃ qx, z71 = .slice (some ⟨qx, 0, none⟩) 1 1 ∧ wy.ownsRow wa.heap.size 99 2 (.slice (some ⟨qx, 0, none⟩) 1 1) (1) ([.int .i64 (xp : Int), .string (⟨(xs.take n).toArray⟩ ++ ⟨(st.drop n).toArray⟩)])) ∧ (b 22 = true → b 25 = false → ∃ A2 k2, z72 = .slice A2 (nC + 1) k2 ∧ wy.ownsRow wa.heap.size 99 2 (.slice A2 (nC + 1) k2) (nC + 1) (ys ++ [.int .i64 (xp : Int), .string (⟨(xs.take n).toArray⟩ ++ ⟨(st.drop n).toArray⟩)])) ∧ (b 25 = true → ∃ A2 k2 wp, wy = wp.setCell ⟨rb, 1, none⟩ (.slice A2 (nC + 1) k2) ∧ Below wa.heap.size wa wp ∧ wp.ownsRow base 99 2 (.slice A2 (nC + 1) k2) (nC + 1) (ys ++ [.int .i64 (xp : Int), .string (⟨(xs.take n).toArray⟩ ++ ⟨(st.drop n).toArray⟩)])) ∧ (b 6 = true → b 1 = true ∧ b 5 = true) ∧ (b 16 = true → b 6 = true) ∧ (b 18 = true → b 6 = true) ∧ (b 19 = true → b 6 = true) ∧ (b 20 = true → b 6 = true) ∧ (b 21 = true → b 6 = true) ∧ (b 22 = true → b 6 = true ∧ b 16 = true ∧ b 21 = true) ∧ (b 25 = true → b 1 = true ∧ b 5 = true ∧ b 6 = true ∧ b 8 = true ∧ b 10 = true ∧ b 15 = true ∧ b 16 = true ∧ b 18 = true ∧ b 19 = true ∧ b 20 = true ∧ b 21 = true ∧ b 22 = true))) (by kernel_rfl) (by kernel_rfl) ?startC12 ?stepsC12 ?doneC12
            case startC12 =>
              intro b hb
              refine ⟨u50, u51, u52, u53, u54, u55, u56, u57, u58, u59, u60, u61, u62, u63, u64, u65, u66, u67, u68, u69, u70, u71, u72, u73, u74, rfl, Lib.hid ⟨?_, ?_, ?_, ?_, ?_, ?_, ?_, ?_, ?_, ?_, ?_, ?_, ?_, ?_, ?_, ?_, ?_, ?_, ?_, ?_, ?_⟩, Lib.hid ((show Still wa wa.drew from ⟨rfl, rfl, rfl, rfl⟩).below _), Lib.hid (⟨fun _ => (show Still wa wa.drew from ⟨rfl, rfl, rfl, rfl⟩).below _, fun e _ => (by rw [hb _ (by decide)] at e; cases e), fun e _ => (by rw [hb _ (by decide)] at e; cases e), fun e _ => (by rw [hb _ (by decide)] at e; cases e), fun e _ => (by rw [hb _ (by decide)] at e; cases e), fun e => (by rw [hb _ (by decide)] at e; cases e), fun e => (by rw [hb _ (by decide)] at e; cases e), fun e => (by rw [hb _ (by decide)] at e; cases e), fun e => (by rw [hb _ (by decide)] at e; cases e), fun e => (by rw [hb _ (by decide)] at e; cases e), fun e => (by rw [hb _ (by decide)] at e; cases e), fun e => (by rw [hb _ (by decide)] at e; cases e), fun e => (by rw [hb _ (by decide)] at e; cases e), fun e => (by rw [hb _ (by decide)] at e; cases e)⟩)⟩
              all_goals (intro e; first | rfl | (rw [hb _ (by decide)] at e; cases e))
            case stepsC12 =>
              refine ⟨?_, ?_, ?_, ?_, ?_, ?_, ?_, ?_, ?_, ?_, ?_, ?_, ?_, ?_, ?_, ?_, ?_, ?_, ?_, ?_, ?_, ?_, ?_, ?_, ?_, ?_, trivial⟩
              · rintro b a wy hb hd ⟨z50, z51, z52, z53, z54, z55, z56, z57, z58, z59, z60, z61, z62, z63, z64, z65, z66, z67, z68, z69, z70, z71, z72, z73, z74, rfl, HV, HW, HX⟩ K hK
                obtain ⟨h0, h2, h3, h4, h5, h7, h8, h9, h10, h11, h12, h13, h14, h15, h16, h17, h18, h19, h20, h23, h24⟩ := HV.out
                clear hd
                go_simp
                exact hK _ _ ⟨_, _, _, _, _, _, _, _, _, _, _, _, _, _, _, _, _, _, _, _, _, _, _, _, _, rfl, Lib.hid ⟨fun _ => rfl, h2, h3, h4, h5, h7, h8, h9, h10, h11, h12, h13, h14, h15, h16, h17, h18, h19, h20, h23, h24⟩, HW, HX⟩
              · rintro b a wy hb hd ⟨z50, z51, z52, z53, z54, z55, z56, z57, z58, z59, z60, z61, z62, z63, z64, z65, z66, z67, z68, z69, z70, z71, z72, z73, z74, rfl, HV, HW, HX⟩ K hK
                obtain ⟨h0, h2, h3, h4, h5, h7, h8, h9, h10, h11, h12, h13, h14, h15, h16, h17, h18, h19, h20, h23, h24⟩ := HV.out
                clear hd
                obtain ⟨x0, x1, x6, x21, x22, x25, o6, p16, p18, p19, p20, p21, o22, o25⟩ := HX.out
                have n25 : b 25 = false := by cases e25 : b 25 with | false => rfl | true => (have q := o25 e25; simp [hb] at q)
                go_simp
                exact hK _ _ ⟨_, _, _, _, _, _, _, _, _, _, _, _, _, _, _, _, _, _, _, _, _, _, _, _, _, rfl, Lib.hid ⟨h0, h2, h3, h4, h5, h7, h8, h9, h10, h11, h12, h13, h14, h15, h16, h17, h18, h19, h20, h23, h24⟩, Lib.hid (HW.out.alloc (Nat.le_trans HBW.out (x0 n25).size) _), Lib.hid ⟨fun _ => (x0 n25).alloc (x0 n25).size _, fun _ _ => ⟨wy.heap.size, rfl, own_none' wy _ (x0 n25).size⟩, fun e _ => (by have q := o6 e; simp [hb] at q), fun e _ => (by have q := o6 (p21 e); simp [hb] at q), fun e _ => (by have q := o6 (o22 e).1; simp [hb] at q), fun e => (by have e' : b 25 = true := e; rw [n25] at e'; cases e'), fun e => ⟨rfl, (o6 e).2⟩, p16, p18, p19, p20, p21, o22, fun e => (by have q := o25 e; simp [hb] at q)⟩⟩
              · rintro b a wy hb hd ⟨z50, z51, z52, z53, z54, z55, z56, z57, z58, z59, z60, z61, z62, z63, z64, z65, z66, z67, z68, z69, z70, z71, z72, z73, z74, rfl, HV, HW, HX⟩ K hK
                obtain ⟨h0, h2, h3, h4, h5, h7, h8, h9, h10, h11, h12, h13, h14, h15, h16, h17, h18, h19, h20, h23, h24⟩ := HV.out
                clear hd
                go_simp
                exact hK _ _ ⟨_, _, _, _, _, _, _, _, _, _, _, _, _, _, _, _, _, _, _, _, _, _, _, _, _, rfl, Lib.hid ⟨h0, fun _ => rfl, h3, h4, h5, h7, h8, h9, h10, h11, h12, h13, h14, h15, h16, h17, h18, h19, h20, h23, h24⟩, HW, HX⟩
              · rintro b a wy hb hd ⟨z50, z51, z52, z53, z54, z55, z56, z57, z58, z59, z60, z61, z62, z63, z64, z65, z66, z67, z68, z69, z70, z71, z72, z73, z74, rfl, HV, HW, HX⟩ K hK
                obtain ⟨h0, h2, h3, h4, h5, h7, h8, h9, h10, h11, h12, h13, h14, h15, h16, h17, h18, h19, h20, h23, h24⟩ := HV.out
                simp [Region.binds] at hd
                obtain rfl := h2 (by simp [hd])
                clear hd
                go_simp
                exact hK _ _ ⟨_, _, _, _, _, _, _, _, _, _, _, _, _, _, _, _, _, _, _, _, _, _, _, _, _, rfl, Lib.hid ⟨h0, h2, fun _ => rfl, h4, h5, h7, h8, h9, h10, h11, h12, h13, h14, h15, h16, h17, h18, h19, h20, h23, h24⟩, HW, HX⟩
              · rintro b a wy hb hd ⟨z50, z51, z52, z53, z54, z55, z56, z57, z58, z59, z60, z61, z62, z63, z64, z65, z66, z67, z68, z69, z70, z71, z72, z73, z74, rfl, HV, HW, HX⟩ K hK
                obtain ⟨h0, h2, h3, h4, h5, h7, h8, h9, h10, h11, h12, h13, h14, h15, h16, h17, h18, h19, h20, h23, h24⟩ := HV.out
                simp [Region.binds] at hd
                obtain rfl := h3 (by simp [hd])
                clear hd
                go_simp
                exact hK _ _ ⟨_, _, _, _, _, _, _, _, _, _, _, _, _, _, _, _, _, _, _, _, _, _, _, _, _, rfl, Lib.hid ⟨h0, h2, h3, fun _ => rfl, h5, h7, h8, h9, h10, h11, h12, h13, h14, h15, h16, h17, h18, h19, h20, h23, h24⟩, HW, HX⟩
              · rintro b a wy hb hd ⟨z50, z51, z52, z53, z54, z55, z56, z57, z58, z59, z60, z61, z62, z63, z64, z65, z66, z67, z68, z69, z70, z71, z72, z73, z74, rfl, HV, HW, HX⟩ K hK
                obtain ⟨h0, h2, h3, h4, h5, h7, h8, h9, h10, h11, h12, h13, h14, h15, h16, h17, h18, h19, h20, h23, h24⟩ := HV.out
                simp [Region.binds] at hd
                obtain rfl := h4 (by simp [hd])
                clear hd
                obtain ⟨x0, x1, x6, x21, x22, x25, o6, p16, p18, p19, p20, p21, o22, o25⟩ := HX.out
                have n25 : b 25 = false := by cases e25 : b 25 with | false => rfl | true => (have q := o25 e25; simp [hb] at q)
                have c := (HKW.out wy (x0 n25)).1.1
                go_simp
                exact hK _ _ ⟨_, _, _, _, _, _, _, _, _, _, _, _, _, _, _, _, _, _, _, _, _, _, _, _, _, rfl, Lib.hid ⟨h0, h2, h3, h4, fun _ => rfl, h7, h8, h9, h10, h11, h12, h13, h14, h15, h16, h17, h18, h19, h20, h23, h24⟩, HW, Lib.hid ⟨x0, x1, x6, x21, x22, x25, fun e => ⟨(o6 e).1, rfl⟩, p16, p18, p19, p20, p21, o22, fun e => (by have q := o25 e; simp [hb] at q)⟩⟩
              · rintro b a wy hb hd ⟨z50, z51, z52, z53, z54, z55, z56, z57, z58, z59, z60, z61, z62, z63, z64, z65, z66, z67, z68, z69, z70, z71, z72, z73, z74, rfl, HV, HW, HX⟩ K hK
                obtain ⟨h0, h2, h3, h4, h5, h7, h8, h9, h10, h11, h12, h13, h14, h15, h16, h17, h18, h19, h20, h23, h24⟩ := HV.out
                simp [Region.binds] at hd
                have dd1 : b 1 = true := by simp [hd]
                obtain rfl := h5 (by simp [hd])
                have e5 : b 5 = true := by simp [hd]
                clear hd
                obtain ⟨x0, x1, x6, x21, x22, x25, o6, p16, p18, p19, p20, p21, o22, o25⟩ := HX.out
                have n25 : b 25 = false := by cases e25 : b 25 with | false => rfl | true => (have q := o25 e25; simp [hb] at q)
                obtain ⟨q0, rfl, w0⟩ := x1 dd1 hb
                obtain ⟨v', w', hrun, ho, hg⟩ := app_row w0 (HCW.out wy (x0 n25)) HON.out (by have := HN1.out; omega) (x0 n25).size 28
                obtain ⟨A1, k1, rfl, _⟩ := own_form ho
                rw [Nat.zero_add, List.nil_append] at ho
                rw [Nat.zero_add] at hrun
                have kb := below_grown hg (Below.refl wa.heap.size wy) (x0 n25).size (fun k hk => (World.ownsRow.lt w0 k hk).1)
                refine if_wanted (by rfl) (wp_append_run (.tmp 51) (.tmp 55) 28 rfl _ _ rfl rfl _ _ hrun ?_)
                exact hK _ _ ⟨_, _, _, _, _, _, _, _, _, _, _, _, _, _, _, _, _, _, _, _, _, _, _, _, _, rfl, Lib.hid ⟨h0, h2, h3, h4, h5, h7, h8, h9, h10, h11, h12, h13, h14, h15, h16, h17, h18, h19, h20, h23, h24⟩, Lib.hid (HW.out.trans (kb.mono HBW.out)), Lib.hid ⟨fun _ => (x0 n25).trans kb, fun _ e => (by simp [Inv.mark] at e), fun _ _ => ⟨A1, k1, rfl, ho⟩, fun e _ => (by have q := p21 e; simp [hb] at q), fun e _ => (by have q := o22 e; simp [hb] at q), fun e => (by have e' : b 25 = true := e; rw [n25] at e'; cases e'), fun _ => ⟨dd1, e5⟩, fun _ => rfl, fun _ => rfl, fun _ => rfl, fun _ => rfl, fun _ => rfl, fun e => (by have q := o22 e; simp [hb] at q), fun e => (by have q := o25 e; simp [hb] at q)⟩⟩
              · rintro b a wy hb hd ⟨z50, z51, z52, z53, z54, z55, z56, z57, z58, z59, z60, z61, z62, z63, z64, z65, z66, z67, z68, z69, z70, z71, z72, z73, z74, rfl, HV, HW, HX⟩ K hK
                obtain ⟨h0, h2, h3, h4, h5, h7, h8, h9, h10, h11, h12, h13, h14, h15, h16, h17, h18, h19, h20, h23, h24⟩ := HV.out
                clear hd
                go_simp
                exact hK _ _ ⟨_, _, _, _, _, _, _, _, _, _, _, _, _, _, _, _, _, _, _, _, _, _, _, _, _, rfl, Lib.hid ⟨h0, h2, h3, h4, h5, fun _ => rfl, h8, h9, h10, h11, h12, h13, h14, h15, h16, h17, h18, h19, h20, h23, h24⟩, HW, HX⟩
              · rintro b a wy hb hd ⟨z50, z51, z52, z53, z54, z55, z56, z57, z58, z59, z60, z61, z62, z63, z64, z65, z66, z67, z68, z69, z70, z71, z72, z73, z74, rfl, HV, HW, HX⟩ K hK
                obtain ⟨h0, h2, h3, h4, h5, h7, h8, h9, h10, h11, h12, h13, h14, h15, h16, h17, h18, h19, h20, h23, h24⟩ := HV.out
                simp [Region.binds] at hd
                obtain rfl := h7 (by simp [hd])
                clear hd
                obtain ⟨x0, x1, x6, x21, x22, x25, o6, p16, p18, p19, p20, p21, o22, o25⟩ := HX.out
                have n25 : b 25 = false := by cases e25 : b 25 with | false => rfl | true => (have q := o25 e25; simp [hb] at q)
                have c := (HKW.out wy (x0 n25)).1.2
                go_simp
                exact hK _ _ ⟨_, _, _, _, _, _, _, _, _, _, _, _, _, _, _, _, _, _, _, _, _, _, _, _, _, rfl, Lib.hid ⟨h0, h2, h3, h4, h5, h7, fun _ => rfl, h9, h10, h11, h12, h13, h14, h15, h16, h17, h18, h19, h20, h23, h24⟩, HW, Lib.hid ⟨x0, x1, x6, x21, x22, x25, o6, p16, p18, p19, p20, p21, o22, fun e => (by have q := o25 e; simp [hb] at q)⟩⟩
              · rintro b a wy hb hd ⟨z50, z51, z52, z53, z54, z55, z56, z57, z58, z59, z60, z61, z62, z63, z64, z65, z66, z67, z68, z69, z70, z71, z72, z73, z74, rfl, HV, HW, HX⟩ K hK
                obtain ⟨h0, h2, h3, h4, h5, h7, h8, h9, h10, h11, h12, h13, h14, h15, h16, h17, h18, h19, h20, h23, h24⟩ := HV.out
                clear hd
                go_simp
                exact hK _ _ ⟨_, _, _, _, _, _, _, _, _, _, _, _, _, _, _, _, _, _, _, _, _, _, _, _, _, rfl, Lib.hid ⟨h0, h2, h3, h4, h5, h7, h8, fun _ => rfl, h10, h11, h12, h13, h14, h15, h16, h17, h18, h19, h20, h23, h24⟩, HW, HX⟩
              · rintro b a wy hb hd ⟨z50, z51, z52, z53, z54, z55, z56, z57, z58, z59, z60, z61, z62, z63, z64, z65, z66, z67, z68, z69, z70, z71, z72, z73, z74, rfl, HV, HW, HX⟩ K hK
                obtain ⟨h0, h2, h3, h4, h5, h7, h8, h9, h10, h11, h12, h13, h14, h15, h16, h17, h18, h19, h20, h23, h24⟩ := HV.out
                simp [Region.binds] at hd
                obtain rfl := h9 (by simp [hd])
                clear hd
                obtain ⟨x0, x1, x6, x21, x22, x25, o6, p16, p18, p19, p20, p21, o22, o25⟩ := HX.out
                have n25 : b 25 = false := by cases e25 : b 25 with | false => rfl | true => (have q := o25 e25; simp [hb] at q)
                have c := (HKW.out wy (x0 n25)).2.1
                go_simp
                exact hK _ _ ⟨_, _, _, _, _, _, _, _, _, _, _, _, _, _, _, _, _, _, _, _, _, _, _, _, _, rfl, Lib.hid ⟨h0, h2, h3, h4, h5, h7, h8, h9, fun _ => rfl, h11, h12, h13, h14, h15, h16, h17, h18, h19, h20, h23, h24⟩, HW, Lib.hid ⟨x0, x1, x6, x21, x22, x25, o6, p16, p18, p19, p20, p21, o22, fun e => (by have q := o25 e; simp [hb] at q)⟩⟩
              · rintro b a wy hb hd ⟨z50, z51, z52, z53, z54, z55, z56, z57, z58, z59, z60, z61, z62, z63, z64, z65, z66, z67, z68, z69, z70, z71, z72, z73, z74, rfl, HV, HW, HX⟩ K hK
                obtain ⟨h0, h2, h3, h4, h5, h7, h8, h9, h10, h11, h12, h13, h14, h15, h16, h17, h18, h19, h20, h23, h24⟩ := HV.out
                clear hd
                go_simp
                exact hK _ _ ⟨_, _, _, _, _, _, _, _, _, _, _, _, _, _, _, _, _, _, _, _, _, _, _, _, _, rfl, Lib.hid ⟨h0, h2, h3, h4, h5, h7, h8, h9, h10, fun _ => rfl, h12, h13, h14, h15, h16, h17, h18, h19, h20, h23, h24⟩, HW, HX⟩
              · rintro b a wy hb hd ⟨z50, z51, z52, z53, z54, z55, z56, z57, z58, z59, z60, z61, z62, z63, z64, z65, z66, z67, z68, z69, z70, z71, z72, z73, z74, rfl, HV, HW, HX⟩ K hK
                obtain ⟨h0, h2, h3, h4, h5, h7, h8, h9, h10, h11, h12, h13, h14, h15, h16, h17, h18, h19, h20, h23, h24⟩ := HV.out
                simp [Region.binds] at hd
                obtain rfl := h10 (by simp [hd])
                obtain rfl := h11 (by simp [hd])
                clear hd
                have c := HH1.out wy
                go_simp
                exact hK _ _ ⟨_, _, _, _, _, _, _, _, _, _, _, _, _, _, _, _, _, _, _, _, _, _, _, _, _, rfl, Lib.hid ⟨h0, h2, h3, h4, h5, h7, h8, h9, h10, h11, fun _ => rfl, h13, h14, h15, h16, h17, h18, h19, h20, h23, h24⟩, HW, HX⟩
              · rintro b a wy hb hd ⟨z50, z51, z52, z53, z54, z55, z56, z57, z58, z59, z60, z61, z62, z63, z64, z65, z66, z67, z68, z69, z70, z71, z72, z73, z74, rfl, HV, HW, HX⟩ K hK
                obtain ⟨h0, h2, h3, h4, h5, h7, h8, h9, h10, h11, h12, h13, h14, h15, h16, h17, h18, h19, h20, h23, h24⟩ := HV.out
                clear hd
                go_simp
                exact hK _ _ ⟨_, _, _, _, _, _, _, _, _, _, _, _, _, _, _, _, _, _, _, _, _, _, _, _, _, rfl, Lib.hid ⟨h0, h2, h3, h4, h5, h7, h8, h9, h10, h11, h12, fun _ => rfl, h14, h15, h16, h17, h18, h19, h20, h23, h24⟩, HW, HX⟩
              · rintro b a wy hb hd ⟨z50, z51, z52, z53, z54, z55, z56, z57, z58, z59, z60, z61, z62, z63, z64, z65, z66, z67, z68, z69, z70, z71, z72, z73, z74, rfl, HV, HW, HX⟩ K hK
                obtain ⟨h0, h2, h3, h4, h5, h7, h8, h9, h10, h11, h12, h13, h14, h15, h16, h17, h18, h19, h20, h23, h24⟩ := HV.out
                clear hd
                go_simp
                exact hK _ _ ⟨_, _, _, _, _, _, _, _, _, _, _, _, _, _, _, _, _, _, _, _, _, _, _, _, _, rfl, Lib.hid ⟨h0, h2, h3, h4, h5, h7, h8, h9, h10, h11, h12, h13, fun _ => rfl, h15, h16, h17, h18, h19, h20, h23, h24⟩, HW, HX⟩
              · rintro b a wy hb hd ⟨z50, z51, z52, z53, z54, z55, z56, z57, z58, z59, z60, z61, z62, z63, z64, z65, z66, z67, z68, z69, z70, z71, z72, z73, z74, rfl, HV, HW, HX⟩ K hK
                obtain ⟨h0, h2, h3, h4, h5, h7, h8, h9, h10, h11, h12, h13, h14, h15, h16, h17, h18, h19, h20, h23, h24⟩ := HV.out
                simp [Region.binds] at hd
                obtain rfl := h14 (by simp [hd])
                clear hd
                obtain ⟨x0, x1, x6, x21, x22, x25, o6, p16, p18, p19, p20, p21, o22, o25⟩ := HX.out
                have n25 : b 25 = false := by cases e25 : b 25 with | false => rfl | true => (have q := o25 e25; simp [hb] at q)
                have c := (HKW.out wy (x0 n25)).1.2
                go_simp
                exact hK _ _ ⟨_, _, _, _, _, _, _, _, _, _, _, _, _, _, _, _, _, _, _, _, _, _, _, _, _, rfl, Lib.hid ⟨h0, h2, h3, h4, h5, h7, h8, h9, h10, h11, h12, h13, h14, fun _ => rfl, h16, h17, h18, h19, h20, h23, h24⟩, HW, Lib.hid ⟨x0, x1, x6, x21, x22, x25, o6, p16, p18, p19, p20, p21, o22, fun e => (by have q := o25 e; simp [hb] at q)⟩⟩
              · rintro b a wy hb hd ⟨z50, z51, z52, z53, z54, z55, z56, z57, z58, z59, z60, z61, z62, z63, z64, z65, z66, z67, z68, z69, z70, z71, z72, z73, z74, rfl, HV, HW, HX⟩ K hK
                obtain ⟨h0, h2, h3, h4, h5, h7, h8, h9, h10, h11, h12, h13, h14, h15, h16, h17, h18, h19, h20, h23, h24⟩ := HV.out
                simp [Region.binds] at hd
                obtain rfl := h13 (by simp [hd])
                obtain rfl := h15 (by simp [hd])
                have e6 : b 6 = true := by simp [hd]
                clear hd
                obtain ⟨x0, x1, x6, x21, x22, x25, o6, p16, p18, p19, p20, p21, o22, o25⟩ := HX.out
                have n25 : b 25 = false := by cases e25 : b 25 with | false => rfl | true => (have q := o25 e25; simp [hb] at q)
                obtain rfl := h5 (o6 e6).2
                go_simp
                go_at_call 46
                refine (rstands_at (HRA.out _ (x0 n25)) xp).mono ?_
                rintro e wz ⟨rfl, kz⟩
                try go_simp
                exact hK _ _ ⟨_, _, _, _, _, _, _, _, _, _, _, _, _, _, _, _, _, _, _, _, _, _, _, _, _, rfl, Lib.hid ⟨h0, h2, h3, h4, h5, h7, h8, h9, h10, h11, h12, h13, h14, h15, fun _ => (by first | rfl | (rw [HST.out]; rfl)), h17, h18, h19, h20, h23, h24⟩, Lib.hid (HW.out.trans (kz.mono (Nat.le_trans HBW.out (x0 n25).size))), Lib.hid ⟨fun _ => (x0 n25).trans (kz.mono (x0 n25).size), fun _ e => (by have e' : b 6 = false := e; rw [e6] at e'; cases e'), fun _ m => (let ⟨A1, k1, y1, y2⟩ := x6 e6 m; ⟨A1, k1, y1, own_below y2 kz⟩), fun e m => (let ⟨qx, y1, y2⟩ := x21 e m; ⟨qx, y1, own_below y2 kz⟩), fun e _ => (by have q := o22 e; simp [hb] at q), fun e => (by have e' : b 25 = true := e; rw [n25] at e'; cases e'), o6, fun _ => e6, p18, p19, p20, p21, fun e => (by have q := o22 e; simp [hb] at q), fun e => (by have q := o25 e; simp [hb] at q)⟩⟩
              · rintro b a wy hb hd ⟨z50, z51, z52, z53, z54, z55, z56, z57, z58, z59, z60, z61, z62, z63, z64, z65, z66, z67, z68, z69, z70, z71, z72, z73, z74, rfl, HV, HW, HX⟩ K hK
                obtain ⟨h0, h2, h3, h4, h5, h7, h8, h9, h10, h11, h12, h13, h14, h15, h16, h17, h18, h19, h20, h23, h24⟩ := HV.out
                clear hd
                go_simp
                exact hK _ _ ⟨_, _, _, _, _, _, _, _, _, _, _, _, _, _, _, _, _, _, _, _, _, _, _, _, _, rfl, Lib.hid ⟨h0, h2, h3, h4, h5, h7, h8, h9, h10, h11, h12, h13, h14, h15, h16, fun _ => rfl, h18, h19, h20, h23, h24⟩, HW, HX⟩
              · rintro b a wy hb hd ⟨z50, z51, z52, z53, z54, z55, z56, z57, z58, z59, z60, z61, z62, z63, z64, z65, z66, z67, z68, z69, z70, z71, z72, z73, z74, rfl, HV, HW, HX⟩ K hK
                obtain ⟨h0, h2, h3, h4, h5, h7, h8, h9, h10, h11, h12, h13, h14, h15, h16, h17, h18, h19, h20, h23, h24⟩ := HV.out
                simp [Region.binds] at hd
                obtain rfl := h16 (by simp [hd])
                obtain rfl := h17 (by simp [hd])
                have e16 : b 16 = true := by simp [hd]
                clear hd
                obtain ⟨x0, x1, x6, x21, x22, x25, o6, p16, p18, p19, p20, p21, o22, o25⟩ := HX.out
                have c := HH2.out wy
                go_simp
                exact hK _ _ ⟨_, _, _, _, _, _, _, _, _, _, _, _, _, _, _, _, _, _, _, _, _, _, _, _, _, rfl, Lib.hid ⟨h0, h2, h3, h4, h5, h7, h8, h9, h10, h11, h12, h13, h14, h15, h16, h17, fun _ => rfl, h19, h20, h23, h24⟩, HW, Lib.hid ⟨x0, x1, x6, x21, x22, x25, o6, p16, fun _ => p16 e16, p19, p20, p21, o22, fun e => (by have q := o25 e; simp [hb] at q)⟩⟩
              · rintro b a wy hb hd ⟨z50, z51, z52, z53, z54, z55, z56, z57, z58, z59, z60, z61, z62, z63, z64, z65, z66, z67, z68, z69, z70, z71, z72, z73, z74, rfl, HV, HW, HX⟩ K hK
                obtain ⟨h0, h2, h3, h4, h5, h7, h8, h9, h10, h11, h12, h13, h14, h15, h16, h17, h18, h19, h20, h23, h24⟩ := HV.out
                simp [Region.binds] at hd
                obtain rfl := h12 (by simp [hd])
                obtain rfl := h18 (by simp [hd])
                have e18 : b 18 = true := by simp [hd]
                clear hd
                obtain ⟨x0, x1, x6, x21, x22, x25, o6, p16, p18, p19, p20, p21, o22, o25⟩ := HX.out
                have c := HSUM.out
                go_simp
                exact hK _ _ ⟨_, _, _, _, _, _, _, _, _, _, _, _, _, _, _, _, _, _, _, _, _, _, _, _, _, rfl, Lib.hid ⟨h0, h2, h3, h4, h5, h7, h8, h9, h10, h11, h12, h13, h14, h15, h16, h17, h18, fun _ => rfl, h20, h23, h24⟩, HW, Lib.hid ⟨x0, x1, x6, x21, x22, x25, o6, p16, p18, fun _ => p18 e18, p20, p21, o22, fun e => (by have q := o25 e; simp [hb] at q)⟩⟩
              · rintro b a wy hb hd ⟨z50, z51, z52, z53, z54, z55, z56, z57, z58, z59, z60, z61, z62, z63, z64, z65, z66, z67, z68, z69, z70, z71, z72, z73, z74, rfl, HV, HW, HX⟩ K hK
                obtain ⟨h0, h2, h3, h4, h5, h7, h8, h9, h10, h11, h12, h13, h14, h15, h16, h17, h18, h19, h20, h23, h24⟩ := HV.out
                simp [Region.binds] at hd
                obtain rfl := h8 (by simp [hd])
                obtain rfl := h19 (by simp [hd])
                have e19 : b 19 = true := by simp [hd]
                clear hd
                obtain ⟨x0, x1, x6, x21, x22, x25, o6, p16, p18, p19, p20, p21, o22, o25⟩ := HX.out
                go_simp
                exact hK _ _ ⟨_, _, _, _, _, _, _, _, _, _, _, _, _, _, _, _, _, _, _, _, _, _, _, _, _, rfl, Lib.hid ⟨h0, h2, h3, h4, h5, h7, h8, h9, h10, h11, h12, h13, h14, h15, h16, h17, h18, h19, fun _ => rfl, h23, h24⟩, HW, Lib.hid ⟨x0, x1, x6, x21, x22, x25, o6, p16, p18, p19, fun _ => p19 e19, p21, o22, fun e => (by have q := o25 e; simp [hb] at q)⟩⟩
              · rintro b a wy hb hd ⟨z50, z51, z52, z53, z54, z55, z56, z57, z58, z59, z60, z61, z62, z63, z64, z65, z66, z67, z68, z69, z70, z71, z72, z73, z74, rfl, HV, HW, HX⟩ K hK
                obtain ⟨h0, h2, h3, h4, h5, h7, h8, h9, h10, h11, h12, h13, h14, h15, h16, h17, h18, h19, h20, h23, h24⟩ := HV.out
                simp [Region.binds] at hd
                obtain rfl := h20 (by simp [hd])
                have e20 : b 20 = true := by simp [hd]
                clear hd
                obtain ⟨x0, x1, x6, x21, x22, x25, o6, p16, p18, p19, p20, p21, o22, o25⟩ := HX.out
                have n25 : b 25 = false := by cases e25 : b 25 with | false => rfl | true => (have q := o25 e25; simp [hb] at q)
                have ka := (Below.refl wy.heap.size wy).alloc (Nat.le_refl _) (.cells #[.int .i64 (xp : Int), .string (⟨(xs.take n).toArray⟩ ++ ⟨(st.drop n).toArray⟩)] 99)
                go_simp
                exact hK _ _ ⟨_, _, _, _, _, _, _, _, _, _, _, _, _, _, _, _, _, _, _, _, _, _, _, _, _, rfl, Lib.hid ⟨h0, h2, h3, h4, h5, h7, h8, h9, h10, h11, h12, h13, h14, h15, h16, h17, h18, h19, h20, h23, h24⟩, Lib.hid (HW.out.trans (ka.mono (Nat.le_trans HBW.out (x0 n25).size))), Lib.hid ⟨fun _ => (x0 n25).trans (ka.mono (x0 n25).size), fun _ e => (by have e' : b 6 = false := e; rw [p20 e20] at e'; cases e'), fun e m => (let ⟨A1, k1, y1, y2⟩ := x6 e m; ⟨A1, k1, y1, own_below y2 ka⟩), fun _ _ => ⟨wy.heap.size, rfl, own_oneT wy _ (x0 n25).size _ _⟩, fun e _ => (by have q := o22 e; simp [hb] at q), fun e => (by have e' : b 25 = true := e; rw [n25] at e'; cases e'), o6, p16, p18, p19, p20, fun _ => p20 e20, fun e => (by have q := o22 e; simp [hb] at q), fun e => (by have q := o25 e; simp [hb] at q)⟩⟩
              · rintro b a wy hb hd ⟨z50, z51, z52, z53, z54, z55, z56, z57, z58, z59, z60, z61, z62, z63, z64, z65, z66, z67, z68, z69, z70, z71, z72, z73, z74, rfl, HV, HW, HX⟩ K hK
                obtain ⟨h0, h2, h3, h4, h5, h7, h8, h9, h10, h11, h12, h13, h14, h15, h16, h17, h18, h19, h20, h23, h24⟩ := HV.out
                simp [Region.binds] at hd
                have dd6 : b 6 = true := by simp [hd]
                have dd21 : b 21 = true := by simp [hd]
                have e16 : b 16 = true := by simp [hd]
                clear hd
                obtain ⟨x0, x1, x6, x21, x22, x25, o6, p16, p18, p19, p20, p21, o22, o25⟩ := HX.out
                have n25 : b 25 = false := by cases e25 : b 25 with | false => rfl | true => (have q := o25 e25; simp [hb] at q)
                obtain ⟨A1, k1, rfl, w0⟩ := x6 dd6 hb
                obtain ⟨qx, rfl, w2⟩ := x21 dd21 hb
                obtain ⟨v', w', hrun, ho, hg⟩ := app_row w0 w2 (wait_oneT _ _) (by have := HN1.out; omega) (x0 n25).size 28
                obtain ⟨A2, k2, rfl, _⟩ := own_form ho
                have kb := below_grown hg (Below.refl wa.heap.size wy) (x0 n25).size (fun k hk => (World.ownsRow.lt w0 k hk).1)
                refine if_wanted (by rfl) (wp_append_run (.tmp 56) (.tmp 71) 28 rfl _ _ rfl rfl _ _ hrun ?_)
                exact hK _ _ ⟨_, _, _, _, _, _, _, _, _, _, _, _, _, _, _, _, _, _, _, _, _, _, _, _, _, rfl, Lib.hid ⟨h0, h2, h3, h4, h5, h7, h8, h9, h10, h11, h12, h13, h14, h15, h16, h17, h18, h19, h20, h23, h24⟩, Lib.hid (HW.out.trans (kb.mono HBW.out)), Lib.hid ⟨fun _ => (x0 n25).trans kb, fun _ e => (by have e' : b 6 = false := e; rw [dd6] at e'; cases e'), fun _ e => (by simp [Inv.mark] at e), fun _ e => (by simp [Inv.mark] at e), fun _ _ => ⟨A2, k2, rfl, ho⟩, fun e => (by have e' : b 25 = true := e; rw [n25] at e'; cases e'), o6, p16, p18, p19, p20, p21, fun _ => ⟨dd6, e16, dd21⟩, fun e => (by have q := o25 e; simp [hb] at q)⟩⟩
              · rintro b a wy hb hd ⟨z50, z51, z52, z53, z54, z55, z56, z57, z58, z59, z60, z61, z62, z63, z64, z65, z66, z67, z68, z69, z70, z71, z72, z73, z74, rfl, HV, HW, HX⟩ K hK
                obtain ⟨h0, h2, h3, h4, h5, h7, h8, h9, h10, h11, h12, h13, h14, h15, h16, h17, h18, h19, h20, h23, h24⟩ := HV.out
                simp [Region.binds] at hd
                obtain rfl := h0 (by simp [hd])
                clear hd
                go_simp
                exact hK _ _ ⟨_, _, _, _, _, _, _, _, _, _, _, _, _, _, _, _, _, _, _, _, _, _, _, _, _, rfl, Lib.hid ⟨h0, h2, h3, h4, h5, h7, h8, h9, h10, h11, h12, h13, h14, h15, h16, h17, h18, h19, h20, fun _ => rfl, h24⟩, HW, HX⟩
              · rintro b a wy hb hd ⟨z50, z51, z52, z53, z54, z55, z56, z57, z58, z59, z60, z61, z62, z63, z64, z65, z66, z67, z68, z69, z70, z71, z72, z73, z74, rfl, HV, HW, HX⟩ K hK
                obtain ⟨h0, h2, h3, h4, h5, h7, h8, h9, h10, h11, h12, h13, h14, h15, h16, h17, h18, h19, h20, h23, h24⟩ := HV.out
                simp [Region.binds] at hd
                obtain rfl := h23 (by simp [hd])
                clear hd
                go_simp
                exact hK _ _ ⟨_, _, _, _, _, _, _, _, _, _, _, _, _, _, _, _, _, _, _, _, _, _, _, _, _, rfl, Lib.hid ⟨h0, h2, h3, h4, h5, h7, h8, h9, h10, h11, h12, h13, h14, h15, h16, h17, h18, h19, h20, h23, fun _ => rfl⟩, HW, HX⟩
              · rintro b a wy hb hd ⟨z50, z51, z52, z53, z54, z55, z56, z57, z58, z59, z60, z61, z62, z63, z64, z65, z66, z67, z68, z69, z70, z71, z72, z73, z74, rfl, HV, HW, HX⟩ K hK
                obtain ⟨h0, h2, h3, h4, h5, h7, h8, h9, h10, h11, h12, h13, h14, h15, h16, h17, h18, h19, h20, h23, h24⟩ := HV.out
                simp [Region.binds] at hd
                obtain rfl := h24 (by simp [hd])
                have dd22 : b 22 = true := by simp [hd]
                have eall : b 1 = true ∧ b 5 = true ∧ b 6 = true ∧ b 8 = true ∧ b 10 = true ∧ b 15 = true ∧ b 16 = true ∧ b 18 = true ∧ b 19 = true ∧ b 20 = true ∧ b 21 = true ∧ b 22 = true := by simp [hd]
                clear hd
                obtain ⟨x0, x1, x6, x21, x22, x25, o6, p16, p18, p19, p20, p21, o22, o25⟩ := HX.out
                obtain rfl := h5 eall.2.1
                obtain rfl := h8 eall.2.2.2.1
                obtain rfl := h10 eall.2.2.2.2.1
                obtain rfl := h15 eall.2.2.2.2.2.1
                obtain rfl := h16 eall.2.2.2.2.2.2.1
                obtain rfl := h18 eall.2.2.2.2.2.2.2.1
                obtain rfl := h19 eall.2.2.2.2.2.2.2.2.1
                obtain rfl := h20 eall.2.2.2.2.2.2.2.2.2.1
                obtain ⟨A2, k2, rfl, ho⟩ := x22 dd22 hb
                have c := (HKW.out wy (x0 hb)).1.1
                have cf := (HKW.out wy (x0 hb)).2.2
                go_simp
                exact hK _ _ ⟨_, _, _, _, _, _, _, _, _, _, _, _, _, _, _, _, _, _, _, _, _, _, _, _, _, rfl, Lib.hid ⟨h0, h2, h3, h4, h5, h7, h8, h9, h10, h11, h12, h13, h14, h15, h16, h17, h18, h19, h20, h23, h24⟩, Lib.hid (HW.out.setCell (p := ⟨rb, 1, none⟩) HRB.out _), Lib.hid ⟨fun e => (by simp [Inv.mark] at e), fun _ e => (by have e' : b 6 = false := e; rw [eall.2.2.1] at e'; cases e'), fun _ e => (by have e' : b 22 = false := e; rw [dd22] at e'; cases e'), fun _ e => (by have e' : b 22 = false := e; rw [dd22] at e'; cases e'), fun _ e => (by simp [Inv.mark] at e), fun _ => ⟨A2, k2, wy, rfl, x0 hb, own_mono ho HBW.out⟩, o6, p16, p18, p19, p20, p21, o22, fun _ => eall⟩⟩
            case doneC12 =>
              rintro b a wy hb ⟨z50, z51, z52, z53, z54, z55, z56, z57, z58, z59, z60, z61, z62, z63, z64, z65, z66, z67, z68, z69, z70, z71, z72, z73, z74, rfl, HV, HW, HX⟩
              obtain ⟨h0, h2, h3, h4, h5, h7, h8, h9, h10, h11, h12, h13, h14, h15, h16, h17, h18, h19, h20, h23, h24⟩ := HV.out
              obtain rfl := h0 (hb 0)
              obtain rfl := h2 (hb 2)
              obtain rfl := h3 (hb 3)
              obtain rfl := h4 (hb 4)
              obtain rfl := h5 (hb 5)
              obtain rfl := h7 (hb 7)
              obtain rfl := h8 (hb 8)
              obtain rfl := h9 (hb 9)
              obtain rfl := h10 (hb 10)
              obtain rfl := h11 (hb 11)
              obtain rfl := h12 (hb 12)
              obtain rfl := h13 (hb 13)
              obtain rfl := h14 (hb 14)
              obtain rfl := h15 (hb 15)
              obtain rfl := h16 (hb 16)
              obtain rfl := h17 (hb 17)
              obtain rfl := h18 (hb 18)
              obtain rfl := h19 (hb 19)
              obtain rfl := h20 (hb 20)
              obtain rfl := h23 (hb 23)
              obtain rfl := h24 (hb 24)
              clear HV h0 h2 h3 h4 h5 h7 h8 h9 h10 h11 h12 h13 h14 h15 h16 h17 h18 h19 h20 h23 h24
              obtain ⟨x0, x1, x6, x21, x22, x25, o6, p16, p18, p19, p20, p21, o22, o25⟩ := HX.out
              obtain ⟨A2, k2, wp, rfl, hbp, hop⟩ := x25 (hb 25)
              have HBQ := Lib.hid hbp
              have HO2 := Lib.hid hop
              clear HX x0 x1 x6 x21 x22 x25 o6 p16 p18 p19 p20 p21 o22 o25 hb hbp hop HW
              have HN1 := Lib.hid (show (R.came ++ [(xp, xs.take n ++ st.drop n)]).length = nC + 1 by rw [List.length_append, HYS.out.2]; rfl)
              have HN2 := Lib.hid (show wz (R.came ++ [(xp, xs.take n ++ st.drop n)]) = ys ++ [.int .i64 (xp : Int), .string (⟨(xs.take n).toArray⟩ ++ ⟨(st.drop n).toArray⟩)] by rw [wz_snoc, HYS.out.1, txt_join]; rfl)
              have HCN' := Lib.hid HCN.out
              have HRN := Lib.hid (RAt.came' (n := 0) (HRA.out _ HBQ.out) (R.came ++ [(xp, xs.take n ++ st.drop n)]) (by rw [HN1.out, HN2.out]; exact HO2.out) (by rw [HN1.out]; have := HCN.out; have := HF.out; omega))
              have HTN := Lib.hid ((HTA.out.trans (Turned.of_below HBQ.out)).setCell (p := ⟨rb, 1, none⟩) HR3.out.lo (HRA.out _ HBQ.out).head rfl (.slice A2 (nC + 1) k2))
              go_wp2_with fail
              go_roundw
              case rel => exact ⟨k + 1, by omega, by go_num, Lib.hid ⟨_, by rw [HLS.out]; exact HRN.out⟩, HTN.out⟩
              case measure => simp [intOf]; omega
    · obtain rfl : k = r.waits.length := by omega
      have c1 := HR3.out.c1
      have c2 := HR3.out.c2
      have c3 := HR3.out.c3
      have c4 := HR3.out.c4
      have f2 := HR3.out.f 2
      have f3 := HR3.out.f 3
      have f4 := HR3.out.f 4
      go_wp2_with fail
      go_ret
      have R6 := RAt.waits' (n := 0) HR3.out [] (World.ownsRow_nil _ _ _ _) (Nat.zero_le _)
      have e3 := heap_setCell_same _ rb 3 _ _ (.int .i64 (-1)) R6.head
      have e4 := heap_setCell_same _ rb 4 _ _ (.bool false) e3
      have R7 := R6.heads (-1) false (by omega) e4 (fun k hk => by rw [heap_setCell_other _ _ _ _ hk, heap_setCell_other _ _ _ _ hk])
      exact ⟨rfl, ⟨_, _, R7⟩, (((HT1.out.trans HT.out).setCell HR3.out.lo HR3.out.head rfl _).setCell HR3.out.lo R6.head rfl _).setCell HR3.out.lo e3 rfl _⟩
end Go.Proofs.Ythcjhbjhghfhjaa.Dsk
