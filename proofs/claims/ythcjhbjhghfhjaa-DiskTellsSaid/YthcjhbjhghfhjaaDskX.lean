/- What Crash leaves as it was: all but the disk's own two blocks. -/
import Derived.Test.YthcjhbjhghfhjaaDskV
namespace Go.Proofs.Ythcjhbjhghfhjaa.Dsk
open Go.RowKit Go.Proofs.Ythcjhbjhghfhjaa.Oct
set_option linter.unusedVariables false

/-- Of what was there blocks a and b alone may have turned. -/
structure Only (w w' : World) (a b : Nat) : Prop where
  size : w.heap.size ≤ w'.heap.size
  block : ∀ k, k < w.heap.size → k ≠ a → k ≠ b → w'.heap[k]? = w.heap[k]?
theorem Only.refl (w : World) (a b : Nat) : Only w w a b := ⟨Nat.le_refl _, fun _ _ _ _ => rfl⟩
theorem Only.trans {w1 w2 w3 : World} {a b : Nat} (h : Only w1 w2 a b) (k : Only w2 w3 a b) : Only w1 w3 a b :=
  ⟨Nat.le_trans h.size k.size, fun i hi h1 h2 => (k.block i (Nat.lt_of_lt_of_le hi h.size) h1 h2).trans (h.block i hi h1 h2)⟩
theorem Only.of_below {w w' : World} {a b : Nat} (h : Below w.heap.size w w') : Only w w' a b := ⟨h.size, fun k hk _ _ => h.block k hk⟩
theorem Only.drew {w w' : World} {a b : Nat} (h : Only w w' a b) : Only w w'.drew a b := ⟨h.size, h.block⟩
theorem Only.set {w w' : World} {a b : Nat} (h : Only w w' a b) (i : Nat) (v : Value) : Only w (w'.setCell ⟨a, i, none⟩ v) a b :=
  ⟨by rw [show (w'.setCell ⟨a, i, none⟩ v).heap.size = w'.heap.size by simp [World.setCell]]; exact h.size, fun k hk h1 h2 => (heap_setCell_other _ _ _ _ h1).trans (h.block k hk h1 h2)⟩
def CrashPost (w : World) (base a bb bc : Nat) (s' : St) (e : Ending) (w' : World) : Prop := e = .returned (.int .i64 0) ∧ At w' base a bb bc (.slice none 0 0) s' ∧ Turned dT base w w' ∧ Only w w' a bb

theorem run_copy_lay2 {w : World} {base a bb bc : Nat} {wv : Value} {s : St} (h : At w base a bb bc wv s) (ty : TypeId) (p : Nat) (hp : p < s.n) (n : Nat) (hn : n ≤ 128) (bs : List UInt8) (hl : bs.length = 128) (g o : Nat) (hb : Has w g o bs) :
    ∃ w', (Builtin.copy_ #[33, 33] ty #[.slice (some ⟨bb, p * 128, none⟩) n 128, .slice (some ⟨g, o, none⟩) n 128]).run Try.prog w = .ok (goInt n) w' ∧ At w' base a bb bc wv (s.lay p (bs.take n)) ∧ Turned dT base w w' ∧ Only w w' a bb := by
  have hsz : (Try.prog.info? 5).map (·.size) = some 1 := by kernel_rfl
  obtain ⟨hx, h0 | ⟨g', cap', cur, hv, hbase, hg, h1, h2, hcs, htake⟩⟩ := h.blocks
  · cases h0.1
  cases hv
  have hln : (bs.take n).length = n := by rw [List.length_take, hl]; omega
  have hB := h.ok.len
  have hr := run_copy_row (P := Try.prog) w 33 33 ty 5 bb (p * 128) n 128 ⟨g, o, none⟩ n 128 cur 89 (vals (bs.take n)) Try.underlying33 hsz hg
    (by rw [length_vals, hln]; exact (Nat.min_self n).symm)
    (fun j v hj => by
      have hjl : j < (bs.take n).length := by
        rcases Nat.lt_or_ge j (bs.take n).length with h | h
        · exact h
        · rw [List.getElem?_eq_none (by rw [length_vals]; exact h)] at hj; cases hj
      have hv : v = .int .u8 (((bs.take n)[j]).toNat : Int) := by
        have h3 : (vals (bs.take n))[j]? = some (.int .u8 (((bs.take n)[j]).toNat : Int)) := by
          unfold vals
          rw [List.getElem?_map, List.getElem?_eq_getElem hjl]
          rfl
        rw [h3] at hj
        exact (Option.some.inj hj).symm
      rw [hv, add_plain]
      exact hb.pre n j hjl)
    (by rw [length_vals, hln, hcs]; omega)
    (fun v hv => by obtain ⟨c, _, rfl⟩ := List.mem_map.1 hv; rfl)
  rw [length_vals, hln] at hr
  have hnb := h.ne_blocks
  have hnw : wv.ownBlock ≠ some bb := by
    rcases h.waits.2 with ⟨rfl, _⟩ | ⟨g2, cap2, cur2, rfl, _, h3, _⟩
    · simp [Value.ownBlock]
    · intro e
      have : g2 = bb := by simpa [Value.ownBlock] using e
      subst this
      rw [hg] at h3
      cases h3
  have hsr := setRow_heap w bb cur ((cur.toList.take (p * 128) ++ vals (bs.take n) ++ cur.toList.drop (p * 128 + n)).toArray) 89 (0, 0) hg
  have hcell : cur.toList.take (p * 128) ++ vals (bs.take n) ++ cur.toList.drop (p * 128 + n) = splice cur.toList (p * 128) (vals (bs.take n)) := by simp [splice, length_vals, hln]
  rw [hcell] at hr hsr
  refine ⟨_, hr, ⟨h.lo, ?_, ?_, ?_, ?_⟩, ⟨rfl, rfl, rfl, by simp, fun k hk hk2 => ?_⟩, ⟨by simp, fun k _ _ hk => setRow_other w bb k _ hk⟩⟩
  · rw [setRow_other w bb a _ (fun e => hnb e.symm)]
    exact h.head
  · refine ⟨?_, .inr ⟨bb, bc, _, rfl, hbase, hsr, h1, h2, ?_, ?_⟩⟩
    · show (vals (splice s.B (p * 128) (bs.take n))).length = s.n * 128
      rw [length_vals, length_splice _ _ _ (by rw [hln]; omega)]
      exact hB
    · rw [List.size_toArray, length_splice _ _ _ (by rw [length_vals, hln, Array.length_toList, hcs]; omega), Array.length_toList, hcs]
    · show (splice cur.toList (p * 128) (vals (bs.take n))).take (s.n * 128) = vals (splice s.B (p * 128) (bs.take n))
      rw [take_splice _ _ _ _ (by rw [length_vals, hln]; omega) (by rw [length_vals, hln, Array.length_toList, hcs]; omega), htake]
      exact (map_splice _ _ _ _).symm
  · exact own_same h.waits fun k hk _ => setRow_other w bb k _ (fun e => hnw (by rw [hk, e]))
  · refine ⟨h.ok.lo, h.ok.hi, ?_, h.ok.wait, h.ok.few, h.ok.left⟩
    show (splice s.B (p * 128) (bs.take n)).length = s.n * 128
    rw [length_splice _ _ _ (by rw [hln]; omega)]
    exact hB
  · refine setRow_other w bb k _ (fun e => ?_)
    subst e
    rcases hk2 with h3 | h3
    · omega
    · have := h3 _ _ _ hg
      cases this

set_option maxRecDepth 100000 in
set_option maxHeartbeats 400000 in
theorem lay_at2 {w : World} {base a bb bc : Nat} {wv : Value} {s : St} (h : At w base a bb bc wv s) (g o p n : Nat) (bs : List UInt8) (hl : bs.length = 128) (hn : n ≤ 128) (hp : p < s.n) (hc : w.cell? ⟨g, o, none⟩ = some (.int .i64 (p : Int))) (hb : Has w g (o + 1) bs) :
    Calls Try.prog 38 #[.pointer (some ⟨a, 0, none⟩), .pointer (some ⟨g, o, none⟩), .int .i64 (n : Int)] w fun e w' => e = .returned (.tuple #[]) ∧ At w' base a bb bc wv (s.lay p (bs.take n)) ∧ Turned dT base w w' ∧ Only w w' a bb := by
  obtain ⟨hbc1, hbc2⟩ := h.cap
  have hn4 := h.ok.hi
  unfold maxLen at hbc2
  have c0 := h.c0
  have hp2 : (p : Int) < (s.n : Int) := by omega
  have hn2 : (n : Int) ≤ 128 := by omega
  obtain ⟨w2, hcopy, A2, T2, O2⟩ := run_copy_lay2 h.drew 3 p hp n hn bs hl g (o + 1) hb
  have HA := Lib.hid A2
  have HT := Lib.hid (((Turned.refl dT base w).drew).trans T2)
  have HO := Lib.hid (show Only w w2 a bb from ⟨O2.size, O2.block⟩)
  clear h A2 T2 O2 hb hl
  go_enter Try.func38, Try.ntmps38
  go_still_tail 16, (by kernel_rfl)
  change wpList _ _ _ _ _ w.drew
  go_wp2_with fail
  go_end0
  exact ⟨rfl, HA.out, HT.out, HO.out⟩


set_option maxRecDepth 100000 in
set_option maxHeartbeats 800000 in
theorem crash_ok2 {w : World} {base a bb bc : Nat} {wv : Value} {s : St} (h : At w base a bb bc wv s) (hbw : base ≤ w.heap.size) (KA : Option Addr) (len kc : Nat) (ks : List Bool) (hlen : ks.length = len) (torn : Int) (cut : Nat) (hcut : cut ≤ 128) (hm : len ≤ maxLen) (hk : Flags w KA ks) (hka : Aside w base KA) :
    Calls Try.prog 18 #[.pointer (some ⟨a, 0, none⟩), .agg #[.slice KA len kc, .int .i64 torn, .int .i64 (cut : Int)]] w (CrashPost w base a bb bc (s.crashed ks torn cut)) := by
  have B1 := (Below.refl w.heap.size w).alloc (Nat.le_refl _) (.cells #[.slice KA len kc, .int .i64 torn, .int .i64 (cut : Int)] 37)
  have A1 := h.below B1
  have T1 : Turned dT base w _ := Turned.of_below B1
  have O1 : Only w _ a bb := Only.of_below B1
  have K1 := hk.below (B := 0) B1
  have hq := heap_alloc_new w (.cells #[.slice KA len kc, .int .i64 torn, .int .i64 (cut : Int)] 37)
  have KA1 : Aside (w.alloc (.cells #[.slice KA len kc, .int .i64 torn, .int .i64 (cut : Int)] 37)) base KA := hka.alloc _ _ rfl
  go_enter Try.func18, Try.ntmps18
  go_wp2_with fail
  generalize w.alloc (.cells #[.slice KA len kc, .int .i64 torn, .int .i64 (cut : Int)] 37) = w1 at *
  obtain ⟨q, hqq⟩ : ∃ q, q = w.heap.size := ⟨_, rfl⟩
  rw [← hqq] at hq ⊢
  have HQ := Lib.hid hqq
  clear hqq B1
  have q0 := cell_of_row w1 q 0 _ _ _ hq
  have q1 := cell_of_row w1 q 1 _ _ _ hq
  have q2 := cell_of_row w1 q 2 _ _ _ hq
  simp only [List.getElem?_toArray, List.getElem?_cons_zero, List.getElem?_cons_succ] at q0 q1 q2
  have c5 := A1.c5
  have HH := Lib.hid hq
  have HT1 := Lib.hid T1
  have HO1 := Lib.hid O1
  have HK1 := Lib.hid K1
  have HKA1 := Lib.hid KA1
  have HA1 := Lib.hid A1
  have HL := Lib.hid hlen
  have c1 := A1.c1
  obtain ⟨A, cap, hv, hwc, hm2, hA⟩ := A1.wform
  rw [hv] at c1
  have hfew := A1.ok.few
  unfold maxLen at hm2
  have HV := Lib.hid hv
  have HAA := Lib.hid hA
  have HMM := Lib.hid hm
  clear hq T1 O1 K1 KA1 A1 hlen h hk hka hv hA hm
  have hcut2 : (cut : Int) ≤ 128 := by omega
  refine (made_self a _ c5).mono ?_
  rintro e w' ⟨rfl, rfl⟩
  go_wp2_with fail
  go_loopw [25] (fun i wr => ∃ k : Nat, k ≤ s.W.length ∧ i = .int .i64 (k : Int) ∧ Hid (At wr base a bb bc wv (laid s (thr ks torn cut) k)) ∧ Turned dT base w1 wr ∧ Only w1 wr a bb) (fun i _ => s.W.length - (intOf i).toNat)
  case atStart => exact ⟨0, Nat.zero_le _, rfl, HA1, Turned.refl _ _ _, Only.refl _ _ _⟩
  case round =>
    obtain ⟨k, hk, rfl, HR, hT, hO⟩ := hrel
    have HO := Lib.hid hO
    clear hO
    have HT := Lib.hid hT
    have hfn := (laid_frame s (thr ks torn cut) k).1
    have HFN := Lib.hid hfn
    clear c1 q0 q1 q2
    have c1 := HR.out.c1
    rw [HV.out] at c1
    have hqr := keep_q HH.out hT
    have HQR := Lib.hid hqr
    have q0 := cell_of_row wr q 0 _ _ _ hqr
    have q1 := cell_of_row wr q 1 _ _ _ hqr
    have q2 := cell_of_row wr q 2 _ _ _ hqr
    simp only [List.getElem?_toArray, List.getElem?_cons_zero, List.getElem?_cons_succ] at q0 q1 q2
    have HKR := Lib.hid (HK1.out.turned HKA1.out hT)
    clear hT hfn hqr
    by_cases hlt : k < s.W.length
    · obtain ⟨g, hg, hg2⟩ := HAA.out (by omega)
      have hki : (k : Int) < (s.W.length : Int) := by omega
      subst hg
      have hp : s.W[k].1 < (laid s (thr ks torn cut) k).n := by rw [HFN.out]; exact (HA1.out.ok.wait s.W[k] (List.getElem_mem hlt)).1
      have hl128 := Lib.hid (HA1.out.ok.wait s.W[k] (List.getElem_mem hlt)).2
      have HS := Lib.hid (laid_succ s (thr ks torn cut) k hlt)
      have hn128 : thr ks torn cut k ≤ 128 := by unfold thr; split <;> (try split) <;> omega
      have HT' := Lib.hid (HT.out.drew)
      have HR' := Lib.hid (HR.out.drew)
      have HKD := Lib.hid (show Flags wr.drew KA ks from HKR.out)
      have hqa : a < wr.heap.size := HR.out.lt
      have hqq : q < wr.heap.size := World.block_lt_of_cell? wr _ q0
      clear hg2
      go_wp2_with fail
      go_region_held3 (fun w' => w'.cell? ⟨a, 1, none⟩ = some (.slice (some ⟨g, 0, none⟩) s.W.length cap) ∧ w'.cell? ⟨q, 0, none⟩ = some (.slice KA len kc) ∧ w'.cell? ⟨q, 1, none⟩ = some (.int .i64 torn) ∧ w'.cell? ⟨q, 2, none⟩ = some (.int .i64 (cut : Int))) (first | exact ⟨c1, q0, q1, q2⟩ | exact K2 | exact K3) (first | (go_at_call 39; refine (through_at KA len kc ks HL.out torn cut k _ HMM.out HKD.out).mono ?_; rintro e w2 ⟨rfl, hb2⟩; have K2 := And.intro ((hb2.cell (p := ⟨a, 1, none⟩) hqa).trans c1) (And.intro ((hb2.cell (p := ⟨q, 0, none⟩) hqq).trans q0) (And.intro ((hb2.cell (p := ⟨q, 1, none⟩) hqq).trans q1) ((hb2.cell (p := ⟨q, 2, none⟩) hqq).trans q2))); have HB2 := Lib.hid hb2; clear hb2) | (go_at_call 38; have WW := wait_of (HR'.out.below HB2.out) (by rw [HV.out]) hlt; refine (lay_at2 (HR'.out.below HB2.out) g (k * 129) s.W[k].1 (thr ks torn cut k) s.W[k].2 hl128.out hn128 hp WW.1 WW.2).mono ?_; rintro e w3 ⟨rfl, A3, T3, O3⟩; rw [← HS.out] at A3; have HO3 := Lib.hid ((HO.out.drew.trans (Only.of_below HB2.out)).trans O3); clear O3; have HA3 := Lib.hid A3; have QQ := keep_q ((HB2.out.block q hqq).trans HQR.out) T3; have K3 := And.intro (HA3.out.c1.trans (congrArg some HV.out)) (And.intro (cell_of_row w3 q 0 _ _ _ QQ) (And.intro (cell_of_row w3 q 1 _ _ _ QQ) (cell_of_row w3 q 2 _ _ _ QQ))); have HT3 := Lib.hid ((HT'.out.trans (Turned.of_below HB2.out)).trans T3); clear A3 T3 WW QQ))
      go_wp2_with fail
      go_roundw
      case rel => exact ⟨k + 1, by omega, by go_num, HA3, HT3.out, HO3.out⟩
      case measure => simp [intOf]; omega
    · obtain rfl : k = s.W.length := by omega
      have f1 := HR.out.f 1
      have f2 := HR.out.f 2
      have f3 := HR.out.f 3
      have f4 := HR.out.f 4
      have c2 := HR.out.c2
      have c3 := HR.out.c3
      have c4 := HR.out.c4
      clear c1 q0 q1 q2
      have c1 := HR.out.c1
      go_wp2_with fail
      go_ret
      have C1 := HR.out.cleared
      have e1 := heap_setCell_same wr a 1 _ _ (.slice none 0 0) HR.out.head
      have e2 := heap_setCell_same _ a 2 _ _ (.bool false) C1.head
      have e3 := heap_setCell_same _ a 3 _ _ (.bool false) e2
      have e4 := heap_setCell_same _ a 4 _ _ (.int .i64 0) e3
      refine ⟨rfl, C1.power false false 0 (by omega) e4 (fun k hk => ?_), ?_, ?_⟩
      · rw [heap_setCell_other _ _ _ _ hk, heap_setCell_other _ _ _ _ hk, heap_setCell_other _ _ _ _ hk]
      · exact ((((HT1.out.trans HT.out).setCell HR.out.lo HR.out.head rfl _).setCell HR.out.lo e1 rfl _).setCell HR.out.lo e2 rfl _).setCell HR.out.lo e3 rfl _
      · exact (((((HO1.out.trans HO.out).set _ _).set _ _).set _ _).set _ _)

/-- A disk all of whose blocks lie below top, and a crash that can't be refused. -/
def Within (w : World) (base top a : Nat) (s : St) : Prop := ∃ bb bc wv, At w base a bb bc wv s ∧ a < top ∧ bb < top
theorem Is.within {w : World} {base a : Nat} {s : St} (h : Is w base a s) : Within w base w.heap.size a s := by
  obtain ⟨bb, bc, wv, h⟩ := h
  exact ⟨bb, bc, wv, h, h.lt, (World.ownsRow.lt h.blocks bb rfl).2⟩
theorem Within.is {w : World} {base top a : Nat} {s : St} (h : Within w base top a s) : Is w base a s := by
  obtain ⟨bb, bc, wv, h, _⟩ := h
  exact ⟨_, _, _, h⟩
theorem Within.below {w w' : World} {base top a : Nat} {s : St} (h : Within w base top a s) (hb : Below w.heap.size w w') : Within w' base top a s := by
  obtain ⟨bb, bc, wv, h, h1, h2⟩ := h
  exact ⟨_, _, _, h.below hb, h1, h2⟩
def Fell (w : World) (base top a : Nat) (s' : St) (e : Ending) (w' : World) : Prop := e = .returned (.int .i64 0) ∧ Is w' base a s' ∧ Turned dT base w w' ∧ ∀ k, top ≤ k → k < w.heap.size → w'.heap[k]? = w.heap[k]?
theorem crash_within {w : World} {base top a : Nat} {s : St} (h : Within w base top a s) (KA : Option Addr) (len kc : Nat) (ks : List Bool) (hlen : ks.length = len) (torn : Int) (cut : Nat) (hcut : cut ≤ 128) (hm : len ≤ maxLen) (hk : Flags w KA ks) (hka : Aside w base KA) :
    Calls Try.prog 18 #[.pointer (some ⟨a, 0, none⟩), .agg #[.slice KA len kc, .int .i64 torn, .int .i64 (cut : Int)]] w (Fell w base top a (s.crashed ks torn cut)) := by
  obtain ⟨bb, bc, wv, h, h1, h2⟩ := h
  exact (crash_ok2 h (by have := h.lo; have := h.lt; omega) KA len kc ks hlen torn cut hcut hm hk hka).mono fun e w' ⟨he, ha, ht, ho⟩ => ⟨he, ⟨_, _, _, ha⟩, ht, fun k hk hl => ho.block k hl (by omega) (by omega)⟩
/-- A disk from block number base on is as it was. -/
theorem Is.above {w w' : World} {base top a : Nat} {s : St} (h : Is w top a s) (hk : ∀ k, top ≤ k → k < w.heap.size → w'.heap[k]? = w.heap[k]?) : Is w' top a s := by
  obtain ⟨_, _, _, h⟩ := h
  exact ⟨_, _, _, h.same fun k _ _ _ h1 h2 _ _ => hk k h1 h2⟩
end Go.Proofs.Ythcjhbjhghfhjaa.Dsk
