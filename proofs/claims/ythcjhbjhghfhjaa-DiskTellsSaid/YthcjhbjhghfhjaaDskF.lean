/- What Crash does. -/
import Derived.Test.YthcjhbjhghfhjaaDskE
import Derived.Deep.RegionHeld3
namespace Go.Proofs.Ythcjhbjhghfhjaa.Dsk
open Go.RowKit Go.Proofs.Ythcjhbjhghfhjaa.Oct
set_option linter.unusedVariables false
def Aside (w : World) (base : Nat) (A : Option Addr) : Prop := ∀ x, A = some x → (x.block < base ∨ ∀ cs t fr, w.heap[x.block]? = some (.cells cs t fr) → dT t = false)
theorem Aside.alloc {w : World} {base : Nat} {A : Option Addr} (h : Aside w base A) (cs : Array Value) (t : TypeId) (ht : dT t = false) : Aside (w.alloc (.cells cs t)) base A := fun x hx => (h x hx).imp id fun k cs' t' fr hc => by
  by_cases hb : x.block < w.heap.size
  · rw [Below.heap_alloc _ _ _ hb] at hc
    exact k _ _ _ hc
  · by_cases he : x.block = w.heap.size
    · rw [he, heap_alloc_new] at hc
      cases hc
      exact ht
    · rw [Array.getElem?_eq_none (by simp; omega)] at hc
      cases hc
theorem Flags.turned {w w' : World} {base : Nat} {A : Option Addr} {ks : List Bool} (h : Flags w A ks) (ha : Aside w base A) (hb : Turned dT base w w') : Flags w' A ks := by
  rcases h with h | ⟨b, o, rfl, k⟩
  · exact .inl h
  · refine .inr ⟨b, o, rfl, fun i hi => ?_⟩
    have h1 := k i hi
    have hlt := World.block_lt_of_cell? w _ h1
    exact (World.cell?_of_block (hb.block b hlt (ha _ rfl))).trans h1
def St.crashed (s : St) (ks : List Bool) (torn : Int) (cut : Nat) : St := { laid s (thr ks torn cut) s.W.length with W := [], gone := false, armed := false, left := 0 }
theorem keep_q {w w' : World} {base q : Nat} {cs : Array Value} (h : w.heap[q]? = some (.cells cs 37 (0, 0))) (hb : Turned dT base w w') : w'.heap[q]? = some (.cells cs 37 (0, 0)) :=
  (hb.block q (Array.getElem?_eq_some_iff.1 h).1 (.inr fun cs t fr hc => by rw [h] at hc; cases hc; rfl)).trans h
set_option maxRecDepth 100000 in
set_option maxHeartbeats 800000 in
theorem crash_ok {w : World} {base a bb bc : Nat} {wv : Value} {s : St} (h : At w base a bb bc wv s) (hbw : base ≤ w.heap.size) (KA : Option Addr) (len kc : Nat) (ks : List Bool) (hlen : ks.length = len) (torn : Int) (cut : Nat) (hcut : cut ≤ 128) (hm : len ≤ maxLen) (hk : Flags w KA ks) (hka : Aside w base KA) :
    Calls Try.prog 18 #[.pointer (some ⟨a, 0, none⟩), .agg #[.slice KA len kc, .int .i64 torn, .int .i64 (cut : Int)]] w (FlushPost w base a bb bc (s.crashed ks torn cut)) := by
  have B1 := (Below.refl w.heap.size w).alloc (Nat.le_refl _) (.cells #[.slice KA len kc, .int .i64 torn, .int .i64 (cut : Int)] 37)
  have A1 := h.below B1
  have T1 : Turned dT base w _ := Turned.of_below B1
  have K1 := hk.below (B := 0) B1
  have hq := heap_alloc_new w (.cells #[.slice KA len kc, .int .i64 torn, .int .i64 (cut : Int)] 37)
  have KA1 : Aside (w.alloc (.cells #[.slice KA len kc, .int .i64 torn, .int .i64 (cut : Int)] 37)) base KA := hka.alloc _ _ rfl
  go_enter Try.func18, Try.ntmps18
  go_wp2_with fail
  generalize w.alloc (.cells #[.slice KA len kc, .int .i64 torn, .int .i64 (cut : Int)] 37) = w1 at *
  obtain ⟨q, hqq⟩ : ∃ q, q = w.heap.size := ⟨_, rfl⟩
  rw [← hqq] at hq ⊢
  have HQ := Lib.hid hqq
  clear hqq B1
  have q0 := cell_of_row w1 q 0 _ _ _ hq
  have q1 := cell_of_row w1 q 1 _ _ _ hq
  have q2 := cell_of_row w1 q 2 _ _ _ hq
  simp only [List.getElem?_toArray, List.getElem?_cons_zero, List.getElem?_cons_succ] at q0 q1 q2
  have c5 := A1.c5
  have HH := Lib.hid hq
  have HT1 := Lib.hid T1
  have HK1 := Lib.hid K1
  have HKA1 := Lib.hid KA1
  have HA1 := Lib.hid A1
  have HL := Lib.hid hlen
  have c1 := A1.c1
  obtain ⟨A, cap, hv, hwc, hm2, hA⟩ := A1.wform
  rw [hv] at c1
  have hfew := A1.ok.few
  unfold maxLen at hm2
  have HV := Lib.hid hv
  have HAA := Lib.hid hA
  have HMM := Lib.hid hm
  clear hq T1 K1 KA1 A1 hlen h hk hka hv hA hm
  have hcut2 : (cut : Int) ≤ 128 := by omega
  refine (made_self a _ c5).mono ?_
  rintro e w' ⟨rfl, rfl⟩
  go_wp2_with fail
  go_loopw [25] (fun i wr => ∃ k : Nat, k ≤ s.W.length ∧ i = .int .i64 (k : Int) ∧ Hid (At wr base a bb bc wv (laid s (thr ks torn cut) k)) ∧ Turned dT base w1 wr) (fun i _ => s.W.length - (intOf i).toNat)
  case atStart => exact ⟨0, Nat.zero_le _, rfl, HA1, Turned.refl _ _ _⟩
  case round =>
    obtain ⟨k, hk, rfl, HR, hT⟩ := hrel
    have HT := Lib.hid hT
    have hfn := (laid_frame s (thr ks torn cut) k).1
    have HFN := Lib.hid hfn
    clear c1 q0 q1 q2
    have c1 := HR.out.c1
    rw [HV.out] at c1
    have hqr := keep_q HH.out hT
    have HQR := Lib.hid hqr
    have q0 := cell_of_row wr q 0 _ _ _ hqr
    have q1 := cell_of_row wr q 1 _ _ _ hqr
    have q2 := cell_of_row wr q 2 _ _ _ hqr
    simp only [List.getElem?_toArray, List.getElem?_cons_zero, List.getElem?_cons_succ] at q0 q1 q2
    have HKR := Lib.hid (HK1.out.turned HKA1.out hT)
    clear hT hfn hqr
    by_cases hlt : k < s.W.length
    · obtain ⟨g, hg, hg2⟩ := HAA.out (by omega)
      have hki : (k : Int) < (s.W.length : Int) := by omega
      subst hg
      have hp : s.W[k].1 < (laid s (thr ks torn cut) k).n := by rw [HFN.out]; exact (HA1.out.ok.wait s.W[k] (List.getElem_mem hlt)).1
      have hl128 := Lib.hid (HA1.out.ok.wait s.W[k] (List.getElem_mem hlt)).2
      have HS := Lib.hid (laid_succ s (thr ks torn cut) k hlt)
      have hn128 : thr ks torn cut k ≤ 128 := by unfold thr; split <;> (try split) <;> omega
      have HT' := Lib.hid (HT.out.drew)
      have HR' := Lib.hid (HR.out.drew)
      have HKD := Lib.hid (show Flags wr.drew KA ks from HKR.out)
      have hqa : a < wr.heap.size := HR.out.lt
      have hqq : q < wr.heap.size := World.block_lt_of_cell? wr _ q0
      clear hg2
      go_wp2_with fail
      go_region_held3 (fun w' => w'.cell? ⟨a, 1, none⟩ = some (.slice (some ⟨g, 0, none⟩) s.W.length cap) ∧ w'.cell? ⟨q, 0, none⟩ = some (.slice KA len kc) ∧ w'.cell? ⟨q, 1, none⟩ = some (.int .i64 torn) ∧ w'.cell? ⟨q, 2, none⟩ = some (.int .i64 (cut : Int))) (first | exact ⟨c1, q0, q1, q2⟩ | exact K2 | exact K3) (first | (go_at_call 39; refine (through_at KA len kc ks HL.out torn cut k _ HMM.out HKD.out).mono ?_; rintro e w2 ⟨rfl, hb2⟩; have K2 := And.intro ((hb2.cell (p := ⟨a, 1, none⟩) hqa).trans c1) (And.intro ((hb2.cell (p := ⟨q, 0, none⟩) hqq).trans q0) (And.intro ((hb2.cell (p := ⟨q, 1, none⟩) hqq).trans q1) ((hb2.cell (p := ⟨q, 2, none⟩) hqq).trans q2))); have HB2 := Lib.hid hb2; clear hb2) | (go_at_call 38; have WW := wait_of (HR'.out.below HB2.out) (by rw [HV.out]) hlt; refine (lay_at (HR'.out.below HB2.out) g (k * 129) s.W[k].1 (thr ks torn cut k) s.W[k].2 hl128.out hn128 hp WW.1 WW.2).mono ?_; rintro e w3 ⟨rfl, A3, T3⟩; rw [← HS.out] at A3; have HA3 := Lib.hid A3; have QQ := keep_q ((HB2.out.block q hqq).trans HQR.out) T3; have K3 := And.intro (HA3.out.c1.trans (congrArg some HV.out)) (And.intro (cell_of_row w3 q 0 _ _ _ QQ) (And.intro (cell_of_row w3 q 1 _ _ _ QQ) (cell_of_row w3 q 2 _ _ _ QQ))); have HT3 := Lib.hid ((HT'.out.trans (Turned.of_below HB2.out)).trans T3); clear A3 T3 WW QQ))
      go_wp2_with fail
      go_roundw
      case rel => exact ⟨k + 1, by omega, by go_num, HA3, HT3.out⟩
      case measure => simp [intOf]; omega
    · obtain rfl : k = s.W.length := by omega
      have f1 := HR.out.f 1
      have f2 := HR.out.f 2
      have f3 := HR.out.f 3
      have f4 := HR.out.f 4
      have c2 := HR.out.c2
      have c3 := HR.out.c3
      have c4 := HR.out.c4
      clear c1 q0 q1 q2
      have c1 := HR.out.c1
      go_wp2_with fail
      go_ret
      have C1 := HR.out.cleared
      have e1 := heap_setCell_same wr a 1 _ _ (.slice none 0 0) HR.out.head
      have e2 := heap_setCell_same _ a 2 _ _ (.bool false) C1.head
      have e3 := heap_setCell_same _ a 3 _ _ (.bool false) e2
      have e4 := heap_setCell_same _ a 4 _ _ (.int .i64 0) e3
      refine ⟨rfl, C1.power false false 0 (by omega) e4 (fun k hk => ?_), ?_⟩
      · rw [heap_setCell_other _ _ _ _ hk, heap_setCell_other _ _ _ _ hk, heap_setCell_other _ _ _ _ hk]
      · exact ((((HT1.out.trans HT.out).setCell HR.out.lo HR.out.head rfl _).setCell HR.out.lo e1 rfl _).setCell HR.out.lo e2 rfl _).setCell HR.out.lo e3 rfl _

set_option maxRecDepth 100000 in
theorem crash_bad {w : World} {base a bb bc : Nat} {wv : Value} {s : St} (h : At w base a bb bc wv s) (KA : Option Addr) (len kc : Nat) (torn : Int) (cut : Int) (hcut : ¬ (0 ≤ cut ∧ cut ≤ 128)) :
    Calls Try.prog 18 #[.pointer (some ⟨a, 0, none⟩), .agg #[.slice KA len kc, .int .i64 torn, .int .i64 cut]] w fun e w' => e = .returned (.int .i64 2) ∧ Below w.heap.size w w' := by
  have B1 := (Below.refl w.heap.size w).alloc (Nat.le_refl _) (.cells #[.slice KA len kc, .int .i64 torn, .int .i64 cut] 37)
  have A1 := h.below B1
  have hq := heap_alloc_new w (.cells #[.slice KA len kc, .int .i64 torn, .int .i64 cut] 37)
  have HB := Lib.hid B1
  clear h B1
  have hcut2 : cut < 0 ∨ (0 ≤ cut ∧ 128 < cut) := by omega
  clear hcut
  rcases hcut2 with hc | ⟨hc0, hc⟩
  all_goals
    go_enter Try.func18, Try.ntmps18
    go_wp2_with fail
    generalize w.alloc (.cells #[.slice KA len kc, .int .i64 torn, .int .i64 cut] 37) = w1 at *
    obtain ⟨q, hqq⟩ : ∃ q, q = w.heap.size := ⟨_, rfl⟩
    rw [← hqq] at hq ⊢
    have HQ := Lib.hid hqq
    clear hqq
    have q2 := cell_of_row w1 q 2 _ _ _ hq
    simp only [List.getElem?_toArray, List.getElem?_cons_zero, List.getElem?_cons_succ] at q2
    have c5 := A1.c5
    have HA1 := Lib.hid A1
    clear hq A1
    refine (made_self a _ c5).mono ?_
    rintro e w' ⟨rfl, rfl⟩
    go_wp2_with fail
    go_ret
    exact ⟨rfl, HB.out⟩
end Go.Proofs.Ythcjhbjhghfhjaa.Dsk
