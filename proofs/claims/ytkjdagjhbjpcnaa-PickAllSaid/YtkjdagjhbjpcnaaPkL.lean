/- PickAll's walk. (Written by bin/gen_pkall.py.) -/
import Derived.Test.YtkjdagjhbjpcnaaPkF
import Derived.Lib.MinMax
namespace Go.Proofs.Ytkjdagjhbjpcnaa.Pk
open Go.RowKit Go.Proofs.Ytkjdagjhbjpcnaa.Oct Go.Proofs.Ytkjdagjhbjpcnaa.Mv Go.Proofs.Ytkjdagjhbjpcnaa.Tl Go.Maps
set_option linter.unusedVariables false

/-- A byte of a slice that came in. -/
theorem row_at {w : World} {A : Option Addr} {len cap : Nat} {zs : List Int} (h : IsRow .u8 w A len cap zs) {k : Nat} (hk : k < len) : ∃ b o, ∃ x : UInt8, A = some ⟨b, o, none⟩ ∧ b < w.heap.size ∧ w.cell? ⟨b, o + k, none⟩ = some (.int .u8 (x.toNat : Int)) := by
  rcases h with ⟨rfl, rfl, rfl, rfl⟩ | ⟨x, rfl, hl, hm, hz, hc, hw⟩
  · omega
  · have h1 := hc k (by omega)
    have h0 := hc 0 (by omega)
    obtain ⟨b, o, spot⟩ := x
    have hspot : spot = none := by simpa [Addr.add] using World.cell?_spot h0
    subst hspot
    rw [add_plain] at h1
    obtain ⟨x, hx⟩ := u8_of (hw (zs.getD k 0) (by rw [List.getD_eq_getElem?_getD, List.getElem?_eq_getElem (by omega)]; exact List.getElem_mem (by omega)))
    rw [hx] at h1
    exact ⟨b, o, x, rfl, World.block_lt_of_cell? w _ h1, h1⟩
theorem row_le {w : World} {A : Option Addr} {len cap : Nat} {zs : List Int} (h : IsRow .u8 w A len cap zs) : len ≤ cap ∧ cap ≤ maxLen := by
  rcases h with ⟨rfl, rfl, rfl, rfl⟩ | ⟨x, rfl, hl, hm, hz, hc, hw⟩
  · exact ⟨Nat.le_refl _, Nat.zero_le _⟩
  · exact ⟨hl, hm⟩
/-- A row of flags is none of a pick's blocks. -/
theorem PAt.apart {w : World} {p a cb mb c g : Nat} {q : Q} {vs : List Value} (h : PAt w p a cb mb c q) (k : RowV w g 4 vs) : g ≠ p ∧ g ≠ a ∧ g ≠ cb ∧ g ≠ mb := by
  obtain ⟨sp, k2⟩ := h.tally.nums
  obtain ⟨_, _, h1, _⟩ := h.tally.mp
  exact ⟨row_ne k h.row (by decide), row_ne k h.tally.row (by decide), row_ne k k2 (by decide), own_row h1 k⟩
theorem row_but3 {w w' : World} {g p q r : Nat} {T : TypeId} {vs : List Value} (h : RowV w g T vs) (k : But3 w w' p q r) (h1 : g ≠ p) (h2 : g ≠ q) (h3 : g ≠ r) : RowV w' g T vs := h.block (k.block g h.lt h1 h2 h3)
/-- Flags: what is seen is not free any more. -/
structure Seen (w : World) (g n : Nat) (s : St) : Prop where
  row : ∃ fl : List Bool, fl.length = n ∧ RowV w g 4 (bools fl) ∧ ∀ j, fl.getD j false = true → s.free j = false
theorem Seen.new {w : World} {g n : Nat} (s : St) (h : RowV w g 4 (bools (List.replicate n false))) : Seen w g n s :=
  ⟨_, List.length_replicate, h, fun j e => by rw [List.getD_eq_getElem?_getD, List.getElem?_replicate] at e; split at e <;> cases e⟩
theorem Seen.at {w : World} {g n b : Nat} {s : St} (h : Seen w g n s) (hb : b < n) (hf : s.free b = true) : w.cell? ⟨g, b, none⟩ = some (.bool false) := by
  obtain ⟨fl, h1, h2, h3⟩ := h.row
  have e : fl.getD b false = false := by
    cases hx : fl.getD b false with
    | false => rfl
    | true => rw [h3 b hx] at hf; cases hf
  refine h2.cellAt ?_
  rw [List.getD_eq_getElem?_getD, List.getElem?_eq_getElem (by omega)] at e
  simp only [bools, List.getElem?_map, List.getElem?_eq_getElem (show b < fl.length by omega), Option.map_some]
  exact congrArg (fun x => some (Value.bool x)) e
theorem Seen.free {w : World} {g n : Nat} {s : St} (h : Seen w g n s) (i : Nat) : w.frozen? ⟨g, i, none⟩ = false := by
  obtain ⟨fl, h1, h2, h3⟩ := h.row
  exact h2.free i
theorem Seen.next {w w' : World} {g n b : Nat} {q : Q} (h : Seen w g n q.s) {p a cb mb c : Nat} (hp : PAt w p a cb mb c q) (k : But3 w w' cb mb p) (hb : q.Found b) (hn : b < n) :
    (w'.cell? ⟨g, b, none⟩ = some (.bool false) ∧ w'.frozen? ⟨g, b, none⟩ = false ∧ Seen (w'.setCell ⟨g, b, none⟩ (.bool true)) g n (q.took b).s) := by
  obtain ⟨fl, h1, h2, h3⟩ := h.row
  have ap := hp.apart h2
  have r := row_but3 h2 k ap.2.2.1 ap.2.2.2 ap.1
  refine ⟨Seen.at ⟨fl, h1, r, h3⟩ hn hb.2.1, r.free b, fl.set b true, by rw [List.length_set]; exact h1, ?_, fun j e => ?_⟩
  · have := r.set b (.bool true)
    unfold bools at this ⊢
    rwa [← List.map_set] at this
  · rw [free_took hb]
    by_cases e2 : j = b
    · rw [if_pos e2]
    · rw [if_neg e2]
      refine h3 j ?_
      rw [List.getD_eq_getElem?_getD, List.getElem?_set_ne (fun e3 => e2 e3.symm)] at e
      rw [List.getD_eq_getElem?_getD]
      exact e
theorem PAt.setOther {w : World} {p a cb mb c g : Nat} {q : Q} (h : PAt w p a cb mb c q) (hg : g ≠ p ∧ g ≠ a ∧ g ≠ cb ∧ g ≠ mb) (i : Nat) (v : Value) : PAt (w.setCell ⟨g, i, none⟩ v) p a cb mb c q :=
  h.blocks (heap_setCell_other _ _ _ _ (fun e => hg.1 e.symm)) (heap_setCell_other _ _ _ _ (fun e => hg.2.1 e.symm)) (heap_setCell_other _ _ _ _ (fun e => hg.2.2.1 e.symm)) (heap_setCell_other _ _ _ _ (fun e => hg.2.2.2 e.symm))
set_option maxRecDepth 100000 in
set_option maxHeartbeats 2000000 in
theorem all_walk (a0 : Int) (A : Option Addr) (len cap : Nat) (zs : List Int) (a2 : Int) (w : World) (h0 : (Lit.int .u8 a0).wf = true) (hr : IsRow .u8 w A len cap zs) (h2 : (Lit.int .u8 a2).wf = true) : Calls Try.prog 4 #[.int .u8 a0, .slice A len cap, .int .u8 a2] w fun e w' => e = .returned (.bool true) ∧ Below w.heap.size w w' := by
  obtain ⟨x0, rfl⟩ := u8_of h0
  obtain ⟨x2, rfl⟩ := u8_of h2
  clear h0 h2
  have hx0 := u8_lt x0
  have hx2 := u8_lt x2
  obtain ⟨q, hq⟩ : ∃ q : Nat, q = x0.toNat % 60 := ⟨_, rfl⟩
  have hmi : (x0.toNat : Int) % 60 = (q : Int) := by omega
  obtain ⟨n, hn⟩ : ∃ n : Nat, n = 1 + q := ⟨_, rfl⟩
  have e1 : (1 : Int) + (q : Int) = (n : Int) := by omega
  have h1n : 1 ≤ n := by omega
  have hn2 : n ≤ 60 := by omega
  have hq60 : q < 60 := by omega
  have hn0 : ¬ ((n : Int) = 0) := by omega
  obtain ⟨n1, hn1⟩ : ∃ n1 : Nat, n1 = n + 1 := ⟨_, rfl⟩
  have e2 : (n : Int) + 1 = (n1 : Int) := by omega
  have hn10 : ¬ ((n1 : Int) = 0) := by omega
  have hn1b : n1 ≤ 61 := by omega
  obtain ⟨f, hf⟩ : ∃ f : Nat, f = x2.toNat % n1 := ⟨_, rfl⟩
  have hfi : (x2.toNat : Int) % (n1 : Int) = (f : Int) := by rw [hf]; omega
  have hft : Int.tmod (x2.toNat : Int) (n1 : Int) = (f : Int) := by rw [Int.tmod_eq_emod_of_nonneg (by omega), hfi]
  have hfn : f ≤ n := by have := Nat.mod_lt x2.toNat (show 0 < n1 by omega); omega
  obtain ⟨m, hm⟩ : ∃ m : Nat, m = min len 60 := ⟨_, rfl⟩
  have hmin : min (len : Int) 60 = (m : Int) := by omega
  have hml : m ≤ len := by omega
  have hm60 : m ≤ 60 := by omega
  obtain ⟨hle, hcap⟩ := row_le hr
  unfold maxLen at hcap
  have HR := Lib.hid hr
  clear hq hn hn1 hf hm hr
  go_enter Try.func4, Try.ntmps4
  go_wp2_with fail
  refine (new_yes n (by omega) (by omega) w).mono ?_
  rintro e w0 ⟨a, cb, mb, rfl, hf⟩
  have HA0 := Lib.hid (show ∃ s, s.n = n ∧ At w0 a cb mb n s from ⟨_, n_new n, hf.at'⟩)
  have HB0 := Lib.hid hf.below
  have HC := Lib.hid hf.hc
  have HM := Lib.hid hf.hm
  clear hf
  go_wp2_with fail
  go_loopw [45] (fun i wr => ∃ k : Nat, k ≤ m ∧ i = .int .i64 (k : Int) ∧ Hid (∃ s, s.n = n ∧ At wr a cb mb n s) ∧ Hid (Below w.heap.size w wr)) (fun i _ => m - (Go.RowKit.intOf i).toNat)
  case atStart => exact ⟨0, by omega, rfl, HA0, HB0⟩
  case round =>
    obtain ⟨k, hk, rfl, HS, HB⟩ := hrel
    obtain ⟨s, hsn, hat⟩ := HS.out
    have HA := Lib.hid hat
    have HSN := Lib.hid hsn
    clear hat hsn HS
    by_cases hlt : k < m
    · skip
      have hki : (k : Int) < (m : Int) := by omega
      have hge : (0 : Int) ≤ (k : Int) := by omega
      obtain ⟨b, o, x, rfl, hb, hc⟩ := row_at HR.out (k := k) (by omega)
      have d0 := (HB.out.cell hb).trans hc
      have hx := u8_lt x
      obtain ⟨y, hy⟩ : ∃ y : Nat, y = x.toNat % n := ⟨_, rfl⟩
      have hyi : (x.toNat : Int) % (n : Int) = (y : Int) := by rw [hy]; omega
      have hyt : Int.tmod (x.toNat : Int) (n : Int) = (y : Int) := by rw [Int.tmod_eq_emod_of_nonneg (by omega), hyi]
      clear hb hc hy
      go_wp2_with fail
      refine (up_at HA.out (y : Int)).mono ?_
      rintro e w3 ⟨rfl, az, bz⟩
      have HA3 := Lib.hid (show ∃ s, s.n = n ∧ At w3 a cb mb n s from ⟨_, by rw [n_up]; exact HSN.out, az⟩)
      have HB3 := Lib.hid (HB.out.trans (bz.below HC.out HM.out HB.out.size))
      clear az bz d0
      go_wp2_with fail
      go_roundw
      case rel => exact ⟨k + 1, by omega, by go_num, HA3, HB3⟩
      case measure => simp [Go.RowKit.intOf]; omega
    · obtain rfl : k = m := by omega
      have hlt2 : ¬ ((k : Int) < (k : Int)) := by omega
      clear HA0 HB0
      go_wp2_with fail
      refine (pnew_yes HA.out f (by rw [HSN.out]; exact hfn)).mono ?_
      rintro e w1 ⟨p, rfl, hf⟩
      have HP1 := Lib.hid hf.at'
      have HB1 := Lib.hid (HB.out.trans (hf.below.mono HB.out.size))
      have HQ := Lib.hid (Nat.le_trans HB.out.size hf.hp)
      clear hf HA HB
      go_wp2_with fail
      refine (next_at HP1.out).mono ?_
      rintro e w' ⟨rfl, rfl⟩
      go_wp2_with fail
      go_loopw [16, 15] (fun i c wr => ∃ j : Nat, f + j ≤ n ∧ i = .int .i64 ((f + j : Nat) : Int) ∧ c = .int .i64 (St.count s f j : Int) ∧ wr = w1) (fun i _ _ => n - (Go.RowKit.intOf i).toNat)
      case atStart => exact ⟨0, by omega, rfl, rfl, rfl⟩
      case round =>
        obtain ⟨j, hj, rfl, rfl, rfl⟩ := hrel
        obtain ⟨v, hv⟩ : ∃ v : Nat, v = f + j := ⟨_, rfl⟩
        rw [← hv]
        by_cases hlj : v < n
        · skip
          have hji : (v : Int) < (n : Int) := by omega
          have hcl := count_le s f j
          have HCS := Lib.hid (count_succ s f j)
          rw [← hv] at HCS
          have HV := Lib.hid hv
          clear hv
          have hsn := HSN.out
          have HLJ := Lib.hid (show v < s.n by omega)
          clear hsn
          cases hfr : s.free v
          all_goals
            rw [hfr] at HCS
            go_wp2_with fail
            refine (free_yes HP1.out.tally v HLJ.out).mono ?_
            rintro e w' ⟨rfl, rfl⟩
            rw [show (Q.mk s f f 0).s = s from rfl, hfr]
            go_wp2_with fail
            have hv := HV.out
            go_roundw
            case rel => exact ⟨j + 1, by omega, by go_num, by rw [HCS.out]; first | rfl | (congr 1), by first | rfl | trivial⟩
            case measure => simp [Go.RowKit.intOf]; omega
        · obtain rfl : v = n := by omega
          have hjv : ¬ ((v : Int) < (v : Int)) := by omega
          have hjr : j = v - f := by omega
          obtain ⟨R, hR⟩ : ∃ R : Nat, R = St.count s f j := ⟨_, rfl⟩
          rw [← hR]
          have hRn : R ≤ 60 := by have := count_le s f j; omega
          have HRM := Lib.hid (show (Q.mk s f f 0).room = R by show St.count s f (s.n - f) = R; rw [HSN.out, hR, hjr])
          clear hR hjr hv hj
          go_wp2_with fail
          refine (room_eq HP1.out (R : Int) (by rw [HRM.out])).mono ?_
          rintro e w' ⟨rfl, rfl⟩
          have hmk := run_make_flags wr v (by omega)
          have B2 := (Below.refl wr.heap.size wr).alloc (Nat.le_refl _) (.cells (bools (List.replicate v false)).toArray 4)
          have HSE := Lib.hid (Seen.new s (alloc_rowV wr 4 (bools (List.replicate v false))))
          have HP2 := Lib.hid (HP1.out.kept B2)
          have HB2 := Lib.hid (HB1.out.trans (B2.mono HB1.out.size))
          have HG := Lib.hid HB1.out.size
          clear B2 HP1 HB1
          generalize wr.alloc (.cells (bools (List.replicate v false)).toArray 4) = w2 at *
          obtain ⟨g, hg⟩ : ∃ g, g = wr.heap.size := ⟨_, rfl⟩
          rw [← hg] at HSE HG hmk
          clear hg
          go_wp2_with fail
          clear hmk
          go_loopw [88] (fun i wz => ∃ i0 : Nat, i0 ≤ R ∧ i = .int .i64 (i0 : Int) ∧ Hid (Below w.heap.size w wz) ∧ Hid (∃ q : Q, q.s.n = v ∧ q.first = f ∧ q.room + i0 = R ∧ PAt wz p a cb mb v q ∧ Seen wz g v q.s)) (fun i _ => R - (Go.RowKit.intOf i).toNat)
          case atStart => exact ⟨0, by omega, rfl, HB2, Lib.hid ⟨_, HSN.out, rfl, HRM.out, HP2.out, HSE.out⟩⟩
          case round =>
            obtain ⟨i, hi, rfl, HB5, HX⟩ := hrel
            obtain ⟨q, hqn, hqf, hqr, hqp, hqs⟩ := HX.out
            have HP5 := Lib.hid hqp
            have HS5 := Lib.hid hqs
            have HN5 := Lib.hid (And.intro hqn (And.intro hqf hqr))
            clear HX hqn hqf hqr hqp hqs
            by_cases hli : i < R
            · skip
              have hii : (i : Int) < (R : Int) := by omega
              have HPO := Lib.hid (show 0 < q.room by have := HN5.out.2.2; omega)
              clear hli
              go_wp2_with fail
              refine (take_some HP5.out HPO.out).mono ?_
              rintro e w6 ⟨b, rfl, hfo, az, bz⟩
              have hbn : b < v := by rw [← HN5.out.1]; exact hfo.1
              have hfb : f ≤ b := by rw [← HN5.out.2.1]; exact hfo.lo HP5.out.ok
              obtain ⟨d0, f0, hse⟩ := HS5.out.next HP5.out bz hfo hbn
              have HP6 := Lib.hid az
              have HB6 := Lib.hid (HB5.out.trans (bz.below HC.out HM.out HQ.out HB5.out.size))
              have HSE6 := Lib.hid hse
              have HAP := Lib.hid (show g ≠ p ∧ g ≠ a ∧ g ≠ cb ∧ g ≠ mb by obtain ⟨fl, _, r5, _⟩ := HS5.out.row; exact HP5.out.apart r5)
              have HFO := Lib.hid hfo
              have HRT := Lib.hid (room_took HP5.out.ok hfo)
              have HN6 := Lib.hid (show (q.took b).s.n = v by rw [n_took]; exact HN5.out.1)
              obtain ⟨rr, hrr⟩ : ∃ rr : Nat, rr = (q.took b).room := ⟨_, rfl⟩
              have HRR := Lib.hid hrr
              have hrs : (R : Int) - 1 - (i : Int) = (rr : Int) := by have h1 := HRT.out; have h2 := HN5.out.2.2; omega
              have hbi1 : ¬ ((b : Int) < (f : Int)) := by omega
              have hbi2 : ¬ ((v : Int) ≤ (b : Int)) := by omega
              have hbi3 : (0 : Int) ≤ (b : Int) := by omega
              have hbi4 : (b : Int) < (v : Int) := by omega
              have hbi5 : (f : Int) ≤ (b : Int) := by omega
              clear az bz hse hfo hrr HP5 HS5
              go_wp2_with fail
              refine (get_eq HP6.out.tally b (by rw [HN6.out]; exact hbn) 1 (by rw [cnt_took HFO.out]; rfl)).mono ?_
              rintro e w' ⟨rfl, rfl⟩
              go_wp2_with fail
              refine (free_eq HP6.out.tally b (by rw [HN6.out]; exact hbn) false (by rw [free_took HFO.out, if_pos rfl])).mono ?_
              rintro e w' ⟨rfl, rfl⟩
              go_wp2_with fail
              refine (room_eq HP6.out (rr : Int) (by rw [HRR.out])).mono ?_
              rintro e w' ⟨rfl, rfl⟩
              go_wp2_with fail
              have HP7 := Lib.hid (HP6.out.setOther HAP.out b (.bool true))
              have HB7 := Lib.hid (HB6.out.setCell (p := ⟨g, b, none⟩) HG.out (.bool true))
              go_roundw
              case rel => exact ⟨i + 1, by omega, by go_num, HB7, Lib.hid ⟨_, HN6.out, HN5.out.2.1, by have h1 := HRT.out; have h2 := HN5.out.2.2; omega, HP7.out, HSE6.out⟩⟩
              case measure => simp [Go.RowKit.intOf]; omega
            · obtain rfl : i = R := by omega
              have hlt3 : ¬ ((i : Int) < (i : Int)) := by omega
              have HZ := Lib.hid (show q.room = 0 by have := HN5.out.2.2; omega)
              go_wp2_with fail
              refine (take_none HP5.out HZ.out).mono ?_
              rintro e w6 ⟨rfl, az, bz⟩
              have HP6 := Lib.hid az
              have HB6 := Lib.hid (HB5.out.trans (bz.below HC.out HM.out HQ.out HB5.out.size))
              clear az bz HP5
              go_wp2_with fail
              refine (awake_any _).mono ?_
              rintro e w12 ⟨rfl, bz⟩
              have HB12 := Lib.hid (HB6.out.trans (bz.mono HB6.out.size))
              clear bz
              go_wp2_with fail
              go_ret
              exact ⟨rfl, HB12.out⟩
end Go.Proofs.Ytkjdagjhbjpcnaa.Pk
