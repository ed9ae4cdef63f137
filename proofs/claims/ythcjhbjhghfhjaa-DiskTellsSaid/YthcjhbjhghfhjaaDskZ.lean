/- A crash whose list of flags may lie anywhere where it is empty; how a number is chosen; a map that counts. -/
import Derived.Test.YthcjhbjhghfhjaaDskY
import Derived.Test.YthcjhbjhghfhjaaDskU
import Derived.Maps.Own
import Derived.Maps.OwnOps
import Derived.Maps.OwnSet
import Derived.Maps.Views
import Derived.WalkArith
namespace Go.Proofs.Ythcjhbjhghfhjaa.Dsk
open Go.RowKit Go.Proofs.Ythcjhbjhghfhjaa.Oct Go.Maps
set_option linter.unusedVariables false

theorem turned_flags {w w' : World} {base : Nat} {A : Option Addr} {ks : List Bool} (h : Flags w A ks) (ha : ks = [] ∨ Aside w base A) (hb : Turned dT base w w') : Flags w' A ks := by
  rcases ha with h0 | ha
  · exact .inl h0
  · exact h.turned ha hb
set_option maxRecDepth 100000 in
set_option maxHeartbeats 800000 in
theorem crash_ok3 {w : World} {base a bb bc : Nat} {wv : Value} {s : St} (h : At w base a bb bc wv s) (hbw : base ≤ w.heap.size) (KA : Option Addr) (len kc : Nat) (ks : List Bool) (hlen : ks.length = len) (torn : Int) (cut : Nat) (hcut : cut ≤ 128) (hm : len ≤ maxLen) (hk : Flags w KA ks) (hka : ks = [] ∨ Aside w base KA) :
    Calls Try.prog 18 #[.pointer (some ⟨a, 0, none⟩), .agg #[.slice KA len kc, .int .i64 torn, .int .i64 (cut : Int)]] w (CrashPost w base a bb bc (s.crashed ks torn cut)) := by
  have B1 := (Below.refl w.heap.size w).alloc (Nat.le_refl _) (.cells #[.slice KA len kc, .int .i64 torn, .int .i64 (cut : Int)] 37)
  have A1 := h.below B1
  have T1 : Turned dT base w _ := Turned.of_below B1
  have O1 : Only w _ a bb := Only.of_below B1
  have K1 := hk.below (B := 0) B1
  have hq := heap_alloc_new w (.cells #[.slice KA len kc, .int .i64 torn, .int .i64 (cut : Int)] 37)
  have KA1 : ks = [] ∨ Aside (w.alloc (.cells #[.slice KA len kc, .int .i64 torn, .int .i64 (cut : Int)] 37)) base KA := hka.imp id fun h => h.alloc _ _ rfl
  go_enter Try.func18, Try.ntmps18
  go_wp2_with fail
  generalize w.alloc (.cells #[.slice KA len kc, .int .i64 torn, .int .i64 (cut : Int)] 37) = w1 at *
  obtain ⟨q, hqq⟩ : ∃ q, q = w.heap.size := ⟨_, rfl⟩
  rw [← hqq] at hq ⊢
  have HQ := Lib.hid hqq
  clear hqq B1
  have q0 := cell_of_row w1 q 0 _ _ _ hq
  have q1 := cell_of_row w1 q 1 _ _ _ hq
  have q2 := cell_of_row w1 q 2 _ _ _ hq
  simp only [List.getElem?_toArray, List.getElem?_cons_zero, List.getElem?_cons_succ] at q0 q1 q2
  have c5 := A1.c5
  have HH := Lib.hid hq
  have HT1 := Lib.hid T1
  have HO1 := Lib.hid O1
  have HK1 := Lib.hid K1
  have HKA1 := Lib.hid KA1
  have HA1 := Lib.hid A1
  have HL := Lib.hid hlen
  have c1 := A1.c1
  obtain ⟨A, cap, hv, hwc, hm2, hA⟩ := A1.wform
  rw [hv] at c1
  have hfew := A1.ok.few
  unfold maxLen at hm2
  have HV := Lib.hid hv
  have HAA := Lib.hid hA
  have HMM := Lib.hid hm
  clear hq T1 O1 K1 KA1 A1 hlen h hk hka hv hA hm
  have hcut2 : (cut : Int) ≤ 128 := by omega
  refine (made_self a _ c5).mono ?_
  rintro e w' ⟨rfl, rfl⟩
  go_wp2_with fail
  go_loopw [25] (fun i wr => ∃ k : Nat, k ≤ s.W.length ∧ i = .int .i64 (k : Int) ∧ Hid (At wr base a bb bc wv (laid s (thr ks torn cut) k)) ∧ Turned dT base w1 wr ∧ Only w1 wr a bb) (fun i _ => s.W.length - (intOf i).toNat)
  case atStart => exact ⟨0, Nat.zero_le _, rfl, HA1, Turned.refl _ _ _, Only.refl _ _ _⟩
  case round =>
    obtain ⟨k, hk, rfl, HR, hT, hO⟩ := hrel
    have HO := Lib.hid hO
    clear hO
    have HT := Lib.hid hT
    have hfn := (laid_frame s (thr ks torn cut) k).1
    have HFN := Lib.hid hfn
    clear c1 q0 q1 q2
    have c1 := HR.out.c1
    rw [HV.out] at c1
    have hqr := keep_q HH.out hT
    have HQR := Lib.hid hqr
    have q0 := cell_of_row wr q 0 _ _ _ hqr
    have q1 := cell_of_row wr q 1 _ _ _ hqr
    have q2 := cell_of_row wr q 2 _ _ _ hqr
    simp only [List.getElem?_toArray, List.getElem?_cons_zero, List.getElem?_cons_succ] at q0 q1 q2
    have HKR := Lib.hid (turned_flags HK1.out HKA1.out hT)
    clear hT hfn hqr
    by_cases hlt : k < s.W.length
    · obtain ⟨g, hg, hg2⟩ := HAA.out (by omega)
      have hki : (k : Int) < (s.W.length : Int) := by omega
      subst hg
      have hp : s.W[k].1 < (laid s (thr ks torn cut) k).n := by rw [HFN.out]; exact (HA1.out.ok.wait s.W[k] (List.getElem_mem hlt)).1
      have hl128 := Lib.hid (HA1.out.ok.wait s.W[k] (List.getElem_mem hlt)).2
      have HS := Lib.hid (laid_succ s (thr ks torn cut) k hlt)
      have hn128 : thr ks torn cut k ≤ 128 := by unfold thr; split <;> (try split) <;> omega
      have HT' := Lib.hid (HT.out.drew)
      have HR' := Lib.hid (HR.out.drew)
      have HKD := Lib.hid (show Flags wr.drew KA ks from HKR.out)
      have hqa : a < wr.heap.size := HR.out.lt
      have hqq : q < wr.heap.size := World.block_lt_of_cell? wr _ q0
      clear hg2
      go_wp2_with fail
      go_region_held3 (fun w' => w'.cell? ⟨a, 1, none⟩ = some (.slice (some ⟨g, 0, none⟩) s.W.length cap) ∧ w'.cell? ⟨q, 0, none⟩ = some (.slice KA len kc) ∧ w'.cell? ⟨q, 1, none⟩ = some (.int .i64 torn) ∧ w'.cell? ⟨q, 2, none⟩ = some (.int .i64 (cut : Int))) (first | exact ⟨c1, q0, q1, q2⟩ | exact K2 | exact K3) (first | (go_at_call 39; refine (through_at KA len kc ks HL.out torn cut k _ HMM.out HKD.out).mono ?_; rintro e w2 ⟨rfl, hb2⟩; have K2 := And.intro ((hb2.cell (p := ⟨a, 1, none⟩) hqa).trans c1) (And.intro ((hb2.cell (p := ⟨q, 0, none⟩) hqq).trans q0) (And.intro ((hb2.cell (p := ⟨q, 1, none⟩) hqq).trans q1) ((hb2.cell (p := ⟨q, 2, none⟩) hqq).trans q2))); have HB2 := Lib.hid hb2; clear hb2) | (go_at_call 38; have WW := wait_of (HR'.out.below HB2.out) (by rw [HV.out]) hlt; refine (lay_at2 (HR'.out.below HB2.out) g (k * 129) s.W[k].1 (thr ks torn cut k) s.W[k].2 hl128.out hn128 hp WW.1 WW.2).mono ?_; rintro e w3 ⟨rfl, A3, T3, O3⟩; rw [← HS.out] at A3; have HO3 := Lib.hid ((HO.out.drew.trans (Only.of_below HB2.out)).trans O3); clear O3; have HA3 := Lib.hid A3; have QQ := keep_q ((HB2.out.block q hqq).trans HQR.out) T3; have K3 := And.intro (HA3.out.c1.trans (congrArg some HV.out)) (And.intro (cell_of_row w3 q 0 _ _ _ QQ) (And.intro (cell_of_row w3 q 1 _ _ _ QQ) (cell_of_row w3 q 2 _ _ _ QQ))); have HT3 := Lib.hid ((HT'.out.trans (Turned.of_below HB2.out)).trans T3); clear A3 T3 WW QQ))
      go_wp2_with fail
      go_roundw
      case rel => exact ⟨k + 1, by omega, by go_num, HA3, HT3.out, HO3.out⟩
      case measure => simp [intOf]; omega
    · obtain rfl : k = s.W.length := by omega
      have f1 := HR.out.f 1
      have f2 := HR.out.f 2
      have f3 := HR.out.f 3
      have f4 := HR.out.f 4
      have c2 := HR.out.c2
      have c3 := HR.out.c3
      have c4 := HR.out.c4
      clear c1 q0 q1 q2
      have c1 := HR.out.c1
      go_wp2_with fail
      go_ret
      have C1 := HR.out.cleared
      have e1 := heap_setCell_same wr a 1 _ _ (.slice none 0 0) HR.out.head
      have e2 := heap_setCell_same _ a 2 _ _ (.bool false) C1.head
      have e3 := heap_setCell_same _ a 3 _ _ (.bool false) e2
      have e4 := heap_setCell_same _ a 4 _ _ (.int .i64 0) e3
      refine ⟨rfl, C1.power false false 0 (by omega) e4 (fun k hk => ?_), ?_, ?_⟩
      · rw [heap_setCell_other _ _ _ _ hk, heap_setCell_other _ _ _ _ hk, heap_setCell_other _ _ _ _ hk]
      · exact ((((HT1.out.trans HT.out).setCell HR.out.lo HR.out.head rfl _).setCell HR.out.lo e1 rfl _).setCell HR.out.lo e2 rfl _).setCell HR.out.lo e3 rfl _
      · exact (((((HO1.out.trans HO.out).set _ _).set _ _).set _ _).set _ _)


theorem crash_yes {w : World} {base a : Nat} {s : St} (h : Is w base a s) (KA : Option Addr) (len kc : Nat) (ks : List Bool) (hlen : ks.length = len) (torn : Int) (cut : Nat) (hcut : cut ≤ 128) (hm : len ≤ maxLen) (hk : Flags w KA ks) (hka : ks = [] ∨ Aside w base KA) :
    Calls Try.prog 18 #[.pointer (some ⟨a, 0, none⟩), .agg #[.slice KA len kc, .int .i64 torn, .int .i64 (cut : Int)]] w (Did w base a (0, s.crashed ks torn cut)) := by
  obtain ⟨bb, bc, wv, h⟩ := h
  exact (crash_ok3 h (by have := h.lo; have := h.lt; omega) KA len kc ks hlen torn cut hcut hm hk hka).mono fun e w' ⟨he, ha, ht, ho⟩ => ⟨he, ⟨_, _, _, ha⟩, ht⟩

def chosen (n : Int) : Nat := (if n < 0 then (-(n + 1)) % 129 else n % 129).toNat
theorem chosen_le (n : Int) : chosen n ≤ 128 := by
  unfold chosen
  split <;> omega
set_option maxHeartbeats 400000 in
theorem choose_any (n : Int) (hn : (Lit.int .i64 n).wf = true) (w : World) : Calls Try.prog 17 #[.int .i64 n, .int .i64 129] w fun e w' => e = .returned (.int .i64 (chosen n : Int)) ∧ w = w' := by
  have hr : -9223372036854775808 ≤ n ∧ n ≤ 9223372036854775807 := by
    have h2 : IntKind.i64.min ≤ n ∧ n ≤ IntKind.i64.max := by simpa [Lit.wf] using hn
    exact h2
  have hc : (chosen n : Int) = if n < 0 then (-(n + 1)) % 129 else n % 129 := by
    unfold chosen
    split <;> omega
  have HC := Lib.hid hc
  clear hc
  go_enter Try.func17, Try.ntmps17
  by_cases h : n < 0
  · have hm : -(n + 1).tmod 129 = (chosen n : Int) := by
      rw [HC.out, if_pos h, ← Int.neg_tmod, Int.tmod_eq_emod_of_nonneg (by omega)]
    have HM := Lib.hid hm
    clear hm
    go_wp2
    go_ret
    rw [← HM.out]
    exact ⟨rfl, rfl⟩
  · have hm : n % 129 = (chosen n : Int) := by rw [HC.out, if_neg h]
    have HM := Lib.hid hm
    clear hm
    go_wp2
    go_ret
    rw [← HM.out]
    exact ⟨rfl, rfl⟩

/-! ### The map that counts -/
theorem map_law : Keyed Try.prog 5 := int_keyed Try.underlying5
theorem map_zero (w : World) : (zeroValue 3).run Try.prog w = .ok (.int .i64 0) w := by kernel_rfl
theorem byte_wf (x : UInt8) : (Lit.int .u8 (x.toNat : Int)).wf = true := WalkArith.wf_u8 (by have := u8_lt x; omega)
theorem byte_key (x : UInt8) : keyOf Try.prog 5 (.int .u8 (x.toNat : Int)) = some (.int .u8 (x.toNat : Int)) := keyOf_int_mk Try.underlying5 (byte_wf x)
structure Tally (w : World) (B n : Nat) (D : DataW Unit) (cnt : UInt8 → Nat) : Prop where
  own : w.ownsMap Try.prog 5 (plainElem Try.prog 3) B n D
  at' : ∀ x : UInt8, D.atKey (.int .u8 (x.toNat : Int)) (.lit (.int .i64 0)) = .lit (.int .i64 (cnt x : Int))
  le : ∀ x, cnt x ≤ n
theorem Tally.made (w : World) : Tally (w.alloc (.map #[] 0)) w.heap.size 0 (.map []) (fun _ => 0) := ⟨World.ownsMap_made _ _ _ _, fun _ => rfl, fun _ => Nat.le_refl _⟩
theorem Tally.lt {w : World} {B n : Nat} {D : DataW Unit} {cnt : UInt8 → Nat} (h : Tally w B n D cnt) : B < w.heap.size := h.own.lt
theorem Tally.older {w w' : World} {B n : Nat} {D : DataW Unit} {cnt : UInt8 → Nat} (h : Tally w B n D cnt) (b : Below w.heap.size w w') : Tally w' B n D cnt := by
  obtain ⟨es, clock, hb, F, hs, hD⟩ := h.own
  exact ⟨⟨es, clock, (b.block B h.lt).trans hb, F, hs, hD⟩, h.at', h.le⟩
theorem Tally.mono {w : World} {B n n' : Nat} {D : DataW Unit} {cnt : UInt8 → Nat} (h : Tally w B n D cnt) (hn : n ≤ n') : Tally w B n' D cnt := ⟨h.own.mono hn, h.at', fun x => Nat.le_trans (h.le x) hn⟩
theorem Tally.look {w : World} {B n : Nat} {D : DataW Unit} {cnt : UInt8 → Nat} (h : Tally w B n D cnt) (x : UInt8) : (Instr.lookup 51 (.map (some B)) (.int .u8 (x.toNat : Int)) false).run Try.prog w = .ok (.int .i64 (cnt x : Int)) w := by
  obtain ⟨c, hrun, hat, _⟩ := h.own.lookup_int map_law Try.underlying51 Try.underlying3 (map_zero w) (byte_key x)
  have := (h.at' x).symm.trans hat
  cases this
  exact hrun
theorem Tally.look_wp {w : World} {B n : Nat} {D : DataW Unit} {cnt : UInt8 → Nat} (h : Tally w B n D cnt) (c : UInt8) {ops : Array Oper} {rest : List Oper} {o : Oper} {a : Act} {Q : Exit → Act → World → Prop}
    (hg : o.guard = none) (m x : Operand) (hop : o.op = Op.lookup 51 m x false) (hm : a.eval m = .map (some B)) (hx : a.eval x = .int .u8 (c.toNat : Int))
    (hK : wpList Try.prog ops Q rest (a.put o.dst (.int .i64 (cnt c : Int))) w) : wpList Try.prog ops Q (o :: rest) a w :=
  wpList_lookup_own_int _ hg m x 51 hop 5 3 .i64 map_law Try.underlying51 Try.underlying3 (map_zero _) B n D hm h.own _ _ hx (byte_key c) fun z hat _ => by
    have := (h.at' c).symm.trans hat
    cases this
    exact hK
def raised (cnt : UInt8 → Nat) (c : UInt8) : UInt8 → Nat := fun y => if y = c then cnt c + 1 else cnt y
theorem Tally.put_wp {w : World} {B n : Nat} {D : DataW Unit} {cnt : UInt8 → Nat} (h : Tally w B n D cnt) (hn : n < 1000) (c : UInt8) {ops : Array Oper} {rest : List Oper} {o : Oper} {a : Act} {Q : Exit → Act → World → Prop}
    (hg : o.guard = none) (m x v : Operand) (hop : o.op = Op.mapUpdate 51 m x v) (hm : a.eval m = .map (some B)) (hx : a.eval x = .int .u8 (c.toNat : Int)) (hv : a.eval v = .int .i64 ((cnt c : Int) + 1))
    (hK : ∀ w' D', Tally w' B (n + 1) D' (raised cnt c) → w.grownBy w' (some B) → wpList Try.prog ops Q rest (a.put o.dst undef) w') : wpList Try.prog ops Q (o :: rest) a w := by
  have hle := h.le c
  refine wpList_mapUpdate_own _ hg m x v 51 hop 5 3 map_law Try.underlying51 _ B n D hm h.own (by unfold maxLen; omega) _ _ _ hx hv (byte_key c) _ [] (plainElem_int Try.underlying3 (WalkArith.wf_i64 (by omega))) fun w' h1 h2 => hK w' _ ⟨h1, fun y => ?_, fun y => ?_⟩ h2
  · unfold raised
    by_cases hy : y = c
    · subst hy
      rw [if_pos rfl, atKey_put_same (k := .int .u8 (y.toNat : Int)) h.own.isMap trivial]
      simp
    · rw [if_neg hy, atKey_put_other (fun e => hy ?_)]
      · exact h.at' y
      · injection e with _ e
        exact UInt8.toNat_inj.1 (by omega)
  · unfold raised
    split
    · omega
    · have := h.le y; omega
end Go.Proofs.Ythcjhbjhghfhjaa.Dsk
