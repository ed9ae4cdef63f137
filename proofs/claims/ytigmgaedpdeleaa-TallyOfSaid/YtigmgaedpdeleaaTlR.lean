/- TallyBack's walk. (Written by bin/gen_tlback.py.) -/
import Derived.Test.YtigmgaedpdeleaaTlQ
import Derived.Test.YtigmgaedpdeleaaTlM
namespace Go.Proofs.Ytigmgaedpdeleaa.Tl
open Go.RowKit Go.Proofs.Ytigmgaedpdeleaa.Oct Go.Proofs.Ytigmgaedpdeleaa.Mv Go.Maps
set_option linter.unusedVariables false

/-! ### Up, and down again -/
theorem up_ok {s : St} {p : Nat} (hp : p < s.n) (hc : (s.cnt p).toNat < 65535) : s.up (p : Int) = (0, s.put p (s.cnt p + 1)) := by
  unfold St.up
  rw [if_pos ⟨by omega, by omega⟩, Int.toNat_natCast, if_neg]
  intro e
  have := congrArg UInt16.toNat e
  have e2 : (65535 : UInt16).toNat = 65535 := rfl
  omega
theorem cnt_up {s : St} {p : Nat} (hp : p < s.n) (hc : (s.cnt p).toNat < 65535) : ((s.put p (s.cnt p + 1)).cnt p).toNat = (s.cnt p).toNat + 1 := by
  rw [cnt_put hp, if_pos rfl, UInt16.toNat_add]
  show ((s.cnt p).toNat + 1) % 65536 = _
  omega
theorem down_up {s : St} {p : Nat} (hp : p < s.n) (hc : (s.cnt p).toNat < 65535) : (s.put p (s.cnt p + 1)).down (p : Int) = (0, s) := by
  have hcu := cnt_up hp hc
  unfold St.down
  rw [if_pos ⟨by omega, by rw [n_put]; omega⟩, Int.toNat_natCast, if_neg]
  · rw [put_put]
    congr 1
    refine put_same hp (UInt16.toNat_inj.1 ?_)
    rw [UInt16.toNat_sub, hcu]
    show (65536 - 1 + ((s.cnt p).toNat + 1)) % 65536 = _
    have := u16_lt (s.cnt p)
    omega
  · intro e
    have := congrArg UInt16.toNat e
    have e2 : (0 : UInt16).toNat = 0 := rfl
    omega
/-- No count, and no kept one, is more than k. -/
def Most (k : Nat) (s : St) : Prop := ∀ j, (s.cnt j).toNat ≤ k ∧ (s.was j).toNat ≤ k
theorem most_new (n : Nat) : Most 0 (St.new n) := fun j => ⟨by rw [cnt_new]; exact Nat.le_refl _, by rw [was_new]; exact Nat.le_refl _⟩
theorem Most.put {k : Nat} {s : St} (h : Most k s) {p : Nat} (hp : p < s.n) {c : UInt16} (hc : c.toNat ≤ k + 1) : Most (k + 1) (s.put p c) := fun j => by
  rw [cnt_put hp, was_put]
  have := h j
  split <;> omega
theorem Most.more {k : Nat} {s : St} (h : Most k s) {k' : Nat} (hk : k ≤ k') : Most k' s := fun j => by have := h j; omega
theorem Most.did {k : Nat} {s : St} (h : Most k s) (x : Opr) : Most (k + 1) (s.did x) := by
  unfold St.did
  split
  · unfold St.up
    split
    · rename_i hb
      split
      · exact h.more (by omega)
      · rename_i hc
        have hp : spot s.n x.b < s.n := by have := hb.2; omega
        rw [Int.toNat_natCast] at hc ⊢
        refine h.put hp ?_
        have h5 : (s.cnt (spot s.n x.b)).toNat ≠ 65535 := fun e' => hc (UInt16.toNat_inj.1 (by rw [e']; rfl))
        have h6 := u16_lt (s.cnt (spot s.n x.b))
        have h7 := (h (spot s.n x.b)).1
        rw [UInt16.toNat_add]
        show ((s.cnt (spot s.n x.b)).toNat + 1) % 65536 ≤ _
        omega
    · exact h.more (by omega)
  · split
    · unfold St.down
      split
      · rename_i hb
        split
        · exact h.more (by omega)
        · rename_i hc
          have hp : spot s.n x.b < s.n := by have := hb.2; omega
          rw [Int.toNat_natCast] at hc ⊢
          refine h.put hp ?_
          have h5 : (s.cnt (spot s.n x.b)).toNat ≠ 0 := fun e' => hc (UInt16.toNat_inj.1 (by rw [e']; rfl))
          have h6 := u16_lt (s.cnt (spot s.n x.b))
          have h7 := (h (spot s.n x.b)).1
          rw [UInt16.toNat_sub]
          show (65536 - 1 + (s.cnt (spot s.n x.b)).toNat) % 65536 ≤ _
          omega
      · exact h.more (by omega)
    · split
      · exact fun j => ⟨by have := (h j).1; show (s.cnt j).toNat ≤ _; omega, by have := (h j).1; show (s.cnt j).toNat ≤ _; omega⟩
      · exact fun j => ⟨by have := (h j).2; show (s.was j).toNat ≤ _; omega, by have := (h j).2; show (s.was j).toNat ≤ _; omega⟩
theorem did_kept {s : St} {x : Opr} (h : x.what.toNat % 4 ≠ 2) : (s.did x).kept = s.kept := by
  unfold St.did
  split
  · unfold St.up
    split
    · split <;> rfl
    · rfl
  · split
    · unfold St.down
      split
      · split <;> rfl
      · rfl
    · rfl

/-! ### A row of numbers that grows -/
def OwnI (w : World) (base : Nat) (v : Value) (l : List Int) : Prop := w.ownsRow base 3 1 v l.length (l.map (Value.int .i64))
theorem int_info : (Try.prog.info? 3).map (fun i => (i.zero, i.size, i.bytes)) = some (some (.int .i64 0), 1, 8) := by kernel_rfl
theorem own_nil (w : World) (base : Nat) : OwnI w base (.slice none 0 0) [] := ⟨rfl, .inl ⟨rfl, rfl⟩⟩
theorem push_int {w : World} {base : Nat} {v : Value} {l : List Int} (h : OwnI w base v l) {q : Nat} {z : Int} (R : w.cell? ⟨q, 0, none⟩ = some (.int .i64 z)) (ty : TypeId) (hl : l.length ≤ 4096) (hb : base ≤ w.heap.size) :
    ∃ v' w', (Builtin.append_ #[29, 29] ty #[v, .slice (some ⟨q, 0, none⟩) 1 1]).run Try.prog w = .ok v' w' ∧ OwnI w' base v' (l ++ [z]) ∧ Below base w w' := by
  obtain ⟨i0, hi, hz0, hz1, hz2⟩ := info_parts int_info
  obtain ⟨v', w', hr, ho, hg, _⟩ := run_append_own (P := Try.prog) w base 29 ty 3 i0 (.int .i64 0) 1 8 Try.underlying29 hi hz0 hz1 hz2 rfl (by omega) v l.length (l.map (Value.int .i64)) h ⟨q, 0, none⟩ 1 1 [.int .i64 z] rfl
    (fun j u hj => by
      rcases j with _ | j
      · simp at hj
        subst hj
        rw [add_plain]
        exact R
      · simp at hj)
    (fun u hu => by simp at hu; subst hu; rfl) (by unfold maxLen; omega) (by omega) hb
  refine ⟨v', w', hr, ?_, ⟨hg.os, hg.tape, hg.output, hg.size, fun k hk => hg.block k (by omega) (fun e => ?_)⟩⟩
  · unfold OwnI
    rw [List.length_append, List.map_append]
    exact ho
  · have := (World.ownsRow.lt h k e.symm).1
    omega
theorem OwnI.but {w w' : World} {base : Nat} {v : Value} {l : List Int} (h : OwnI w base v l) {p q : Nat} (k : But w w' p q) (hp : p < base) (hq : q < base) : OwnI w' base v l := by
  refine ⟨h.1, ?_⟩
  rcases h.2 with hn | ⟨g, cap, cur, rfl, hb, hgg, rest⟩
  · exact .inl hn
  · refine .inr ⟨g, cap, cur, rfl, hb, ?_, rest⟩
    rw [k.block g (Array.getElem?_eq_some_iff.1 hgg).1 (by omega) (by omega)]
    exact hgg
theorem OwnI.below {w w' : World} {base : Nat} {v : Value} {l : List Int} (h : OwnI w base v l) (k : Below w.heap.size w w') : OwnI w' base v l := by
  refine ⟨h.1, ?_⟩
  rcases h.2 with hn | ⟨g, cap, cur, rfl, hb, hgg, rest⟩
  · exact .inl hn
  · refine .inr ⟨g, cap, cur, rfl, hb, ?_, rest⟩
    rw [k.block g (Array.getElem?_eq_some_iff.1 hgg).1]
    exact hgg
theorem OwnI.slice {w : World} {base : Nat} {v : Value} {l : List Int} (h : OwnI w base v l) (h0 : 0 < l.length) : ∃ g cap, v = .slice (some ⟨g, 0, none⟩) l.length cap ∧ base ≤ g ∧ ∀ i (hi : i < l.length), w.cell? ⟨g, i, none⟩ = some (.int .i64 l[i]) := by
  rcases h.2 with ⟨rfl, e⟩ | ⟨g, cap, cur, rfl, hb, hgg, rest⟩
  · omega
  · refine ⟨g, cap, rfl, hb, fun i hi => ?_⟩
    rw [World.ownsRow.cellAt h i (by omega)]
    simp [hi]
theorem At.under {w w' : World} {a cb mb c : Nat} {s : St} (h : At w a cb mb c s) {B : Nat} (k : Below B w w') (ha : a < B) (hc : cb < B) (hm : mb < B) : At w' a cb mb c s :=
  h.blocks (k.block _ ha) (k.block _ hc) (k.block _ hm)
/-- The counts of all blocks. -/
def St.all (s : St) (k : Nat) : List Int := (List.range k).map fun j => ((s.cnt j).toNat : Int)
theorem length_all (s : St) (k : Nat) : (s.all k).length = k := by simp [St.all]
theorem all_succ (s : St) (k : Nat) : s.all (k + 1) = s.all k ++ [((s.cnt k).toNat : Int)] := by simp [St.all, List.range_succ]
theorem all_at (s : St) {k i : Nat} (h : i < (s.all k).length) : (s.all k)[i] = ((s.cnt i).toNat : Int) := by simp [St.all]

theorem OwnI.all {w : World} {base : Nat} {v : Value} {s : St} {j : Nat} (h : OwnI w base v (s.all j)) (h0 : 0 < j) : ∃ g cap, v = .slice (some ⟨g, 0, none⟩) j cap := by
  obtain ⟨g, cap, rfl, hb, hc⟩ := h.slice (by rw [length_all]; exact h0)
  exact ⟨g, cap, by rw [length_all]⟩
theorem OwnI.cellAll {w : World} {base g cap : Nat} {s : St} {j : Nat} (h : OwnI w base (.slice (some ⟨g, 0, none⟩) j cap) (s.all j)) {i : Nat} (hi : i < j) : w.cell? ⟨g, i, none⟩ = some (.int .i64 ((s.cnt i).toNat : Int)) := by
  obtain ⟨g', cap', e, hb, hc⟩ := h.slice (by rw [length_all]; omega)
  simp only [Value.slice.injEq, Option.some.injEq, Addr.mk.injEq, and_true] at e
  obtain ⟨rfl, _, _⟩ := e
  rw [hc i (by rw [length_all]; exact hi), all_at]
theorem OwnI.still {w w' : World} {base : Nat} {v : Value} {l : List Int} (h : OwnI w base v l) (k : Still w w') : OwnI w' base v l := h.below (k.below _)
set_option maxRecDepth 100000 in
set_option maxHeartbeats 4000000 in
theorem back_walk (a0 : Int) (A : Option Addr) (len cap : Nat) (l : List Opr) (A2 : Option Addr) (len2 cap2 : Nat) (l2 : List Opr) (w : World) (h0 : (Lit.int .u8 a0).wf = true) (ho : OpsIn w A len cap l) (ho2 : OpsIn w A2 len2 cap2 l2) :
    Calls Try.prog 6 #[.int .u8 a0, .slice A len cap, .slice A2 len2 cap2] w fun e w' => e = .returned (.bool true) ∧ Below w.heap.size w w' := by
  obtain ⟨x0, rfl⟩ := u8_of h0
  clear h0
  have hx0 := u8_lt x0
  obtain ⟨q, hq⟩ : ∃ q : Nat, q = x0.toNat % 60 := ⟨_, rfl⟩
  have hmi : (x0.toNat : Int) % 60 = (q : Int) := by omega
  obtain ⟨n, hn⟩ : ∃ n : Nat, n = 1 + q := ⟨_, rfl⟩
  have e1 : (1 : Int) + (q : Int) = (n : Int) := by omega
  have h1n : 1 ≤ n := by omega
  have hn2 : n ≤ 60 := by omega
  have hq60 : q < 60 := by omega
  obtain ⟨m, hm⟩ : ∃ m : Nat, m = min len 80 := ⟨_, rfl⟩
  have hmin : min (len : Int) 80 = (m : Int) := by omega
  have hml : m ≤ len := by omega
  have hm80 : m ≤ 80 := by omega
  obtain ⟨m2, hm2⟩ : ∃ m2 : Nat, m2 = min len2 80 := ⟨_, rfl⟩
  have hmin2 : min (len2 : Int) 80 = (m2 : Int) := by omega
  have hml2 : m2 ≤ len2 := by omega
  have hm802 : m2 ≤ 80 := by omega
  have hle := ho.le
  have hcap := ho.cap
  have hle2 := ho2.le
  have hcap2 := ho2.cap
  unfold maxLen at hcap hcap2
  have HO := Lib.hid ho
  have HO2 := Lib.hid ho2
  clear hq hn hm ho hm2 ho2
  go_enter Try.func6, Try.ntmps6
  go_wp2_with fail
  refine (new_yes n h1n (by omega) w).mono ?_
  rintro e w0 ⟨a, cb, mb, rfl, hf⟩
  have HA0 := Lib.hid (show ∃ s, s.n = n ∧ Most 0 s ∧ At w0 a cb mb n s from ⟨_, by simp [St.n, St.new], most_new n, hf.at'⟩)
  have HB0 := Lib.hid hf.below
  have HC := Lib.hid hf.hc
  have HM := Lib.hid hf.hm
  clear hf
  go_wp2_with fail
  go_loopw [38] (fun c wr => ∃ k : Nat, k ≤ m ∧ c = .int .i64 (k : Int) ∧ Hid (∃ s, s.n = n ∧ Most k s ∧ At wr a cb mb n s) ∧ Hid (Below w.heap.size w wr)) (fun c _ => m - (Go.RowKit.intOf c).toNat)
  case atStart => exact ⟨0, by omega, rfl, HA0, HB0⟩
  case round =>
    obtain ⟨k, hk, rfl, HS, HB⟩ := hrel
    obtain ⟨s, hsn, hmo, hat⟩ := HS.out
    have HA := Lib.hid hat
    have HSN := Lib.hid hsn
    have HMO := Lib.hid hmo
    clear hat hsn hmo HS
    by_cases hlt : k < m
    · have hki : (k : Int) < (m : Int) := by omega
      have hge : (0 : Int) ≤ (k : Int) := by omega
      obtain ⟨b, o, x, rfl, hxk, hlies, hwf⟩ := HO.out.at (k := k) (by omega)
      have HX := Lib.hid hwf
      have hl2 := hlies.below HB.out
      have d0 := hl2.c0
      have d1 := hl2.c1
      clear hlies hl2 hwf hxk
      go_upto_region 8 with (fail)
      have B1 := (Below.refl wr.heap.size wr).alloc (Nat.le_refl _) (.cells #[.int .u8 (x.what.toNat : Int), .int .i64 x.b] 36)
      have R1 := alloc_rowV wr 36 [.int .u8 (x.what.toNat : Int), .int .i64 x.b]
      have HA1 := Lib.hid (HA.out.kept B1)
      have HB1 := Lib.hid (HB.out.trans (B1.mono HB.out.size))
      clear d0 d1 B1
      generalize wr.alloc (.cells #[.int .u8 (x.what.toNat : Int), .int .i64 x.b] 36) = w1 at *
      have d0 := R1.cellAt (i := 0) rfl
      have d1 := R1.cellAt (i := 1) rfl
      clear R1
      go_wp2_with fail
      refine (done_at HA1.out x HX.out).mono ?_
      rintro e w3 ⟨rfl, az, bz⟩
      have HA3 := Lib.hid (show ∃ s, s.n = n ∧ Most (k + 1) s ∧ At w3 a cb mb n s from ⟨_, by rw [n_did HA1.out.ok, HSN.out], HMO.out.did x, az⟩)
      have HB3 := Lib.hid (HB1.out.trans (bz.below HC.out HM.out HB1.out.size))
      clear az bz d0 d1 HA1
      dsimp only
      go_wp2_with fail
      go_roundw
      case rel => exact ⟨k + 1, by omega, by go_num, HA3, HB3⟩
      case measure => simp [Go.RowKit.intOf]; omega
    · obtain rfl : k = m := by omega
      go_wp2_with fail
      refine (keep_at HA.out).mono ?_
      rintro e w1 ⟨rfl, az, bz⟩
      obtain ⟨K, hK⟩ : ∃ K, K = s.now := ⟨_, rfl⟩
      have HA1 := Lib.hid (show At w1 a cb mb n ⟨K, K⟩ by rw [hK]; exact az)
      have HB1 := Lib.hid (HB.out.trans (bz.below HC.out HM.out HB.out.size))
      have HN1 := Lib.hid (show (St.mk K K).n = n by rw [hK]; exact HSN.out)
      have HMK := Lib.hid (show Most 80 ⟨K, K⟩ by rw [hK]; exact fun j => ⟨by have := (HMO.out j).1; show (s.cnt j).toNat ≤ _; omega, by have := (HMO.out j).1; show (s.cnt j).toNat ≤ _; omega⟩)
      clear az bz HA HSN HMO hK
      dsimp only
      go_upto_region 13 with (fail)
      have HLT := Lib.hid HA1.out.lts
      obtain ⟨B, hB⟩ : ∃ B, B = w1.heap.size := ⟨_, rfl⟩
      rw [← hB] at HLT
      have HBB := Lib.hid (show w.heap.size ≤ B by rw [hB]; exact HB1.out.size)
      have HBW := Lib.hid (show B ≤ w1.heap.size by omega)
      clear hB
      go_loopw [49, 12] (fun c v wz => ∃ j : Nat, j ≤ n ∧ c = .int .i64 (j : Int) ∧ Hid (OwnI wz B v ((St.mk K K).all j)) ∧ Hid (At wz a cb mb n ⟨K, K⟩) ∧ Hid (Below w.heap.size w wz) ∧ Hid (B ≤ wz.heap.size)) (fun c _ _ => n - (Go.RowKit.intOf c).toNat)
      case atStart => exact ⟨0, by omega, rfl, Lib.hid (own_nil _ _), HA1, HB1, HBW⟩
      case round =>
        obtain ⟨j, hj, rfl, HI, HAz, HBz, HWz⟩ := hrel
        by_cases hlj : j < n
        · have hji : (j : Int) < (n : Int) := by omega
          have hgj : (0 : Int) ≤ (j : Int) := by omega
          go_wp2_with fail
          refine (get_yes HAz.out j (by rw [HN1.out]; exact hlj)).mono ?_
          rintro e w' ⟨rfl, rfl⟩
          have B2 := (Below.refl wr.heap.size wr).alloc (Nat.le_refl _) (.cells #[.int .i64 (((St.mk K K).cnt j).toNat : Int)] 3)
          have R2 := (alloc_rowV wr 3 [.int .i64 (((St.mk K K).cnt j).toNat : Int)]).cellAt (i := 0) rfl
          have HI2 := HI.out.below B2
          have HA2 := Lib.hid (HAz.out.kept B2)
          have HB2 := Lib.hid (HBz.out.trans (B2.mono HBz.out.size))
          have hw2 := Nat.le_trans HWz.out B2.size
          obtain ⟨v2, w2, hrun, hown, hbel⟩ := push_int HI2 R2 29 (by rw [length_all]; omega) hw2
          rw [← all_succ] at hown
          have HI3 := Lib.hid hown
          have HA3 := Lib.hid (HA2.out.under hbel HLT.out.1 HLT.out.2.1 HLT.out.2.2)
          have HB3 := Lib.hid (HB2.out.trans (hbel.mono HBB.out))
          have HW3 := Lib.hid (Nat.le_trans hw2 hbel.size)
          clear B2 R2 HI2 hw2 hown hbel HA2 HB2
          go_wp2_with (at_builtin; refine wpList_append_run rfl (.tmp 52) (.tmp 56) 29 rfl _ _ rfl rfl _ w2 hrun ?_)
          clear hrun
          go_roundw
          case rel => exact ⟨j + 1, by omega, by go_num, HI3, HA3, HB3, HW3⟩
          case measure => simp [Go.RowKit.intOf]; omega
        · obtain rfl : j = n := by omega
          go_wp2_with fail
          refine (frees_at HAz.out).mono ?_
          rintro e w2 ⟨rfl, bz⟩
          have HI2 := Lib.hid (HI.out.below bz)
          have HA2 := Lib.hid (show ∃ s, s.n = j ∧ s.kept = K ∧ Most (80 + 0) s ∧ At w2 a cb mb j s from ⟨_, HN1.out, rfl, HMK.out, HAz.out.kept bz⟩)
          have HB2 := Lib.hid (HBz.out.trans (bz.mono HBz.out.size))
          have HW2 := Lib.hid (Nat.le_trans HWz.out bz.size)
          clear bz HI HAz HBz HWz
          obtain ⟨fr, hfr⟩ : ∃ fr, fr = (St.mk K K).frees := ⟨_, rfl⟩
          rw [← hfr]
          have HFR := Lib.hid hfr
          clear hfr
          go_wp2_with fail
          go_loopw [67] (fun c wz => ∃ i : Nat, i ≤ m2 ∧ c = .int .i64 (i : Int) ∧ Hid (∃ s, s.n = j ∧ s.kept = K ∧ Most (80 + i) s ∧ At wz a cb mb j s) ∧ Hid (Below w.heap.size w wz) ∧ Hid (OwnI wz B u12 ((St.mk K K).all j)) ∧ Hid (B ≤ wz.heap.size)) (fun c _ => m2 - (Go.RowKit.intOf c).toNat)
          case atStart => exact ⟨0, by omega, rfl, HA2, HB2, HI2, HW2⟩
          case round =>
            obtain ⟨i, hi, rfl, HS, HBz, HI, HWz⟩ := hrel
            obtain ⟨s, hsn, hsk, hmo, hat⟩ := HS.out
            have HA := Lib.hid hat
            have HSN := Lib.hid hsn
            have HSK := Lib.hid hsk
            have HMO := Lib.hid hmo
            clear hat hsn hsk hmo HS
            by_cases hli : i < m2
            · have hii : (i : Int) < (m2 : Int) := by omega
              have hgi : (0 : Int) ≤ (i : Int) := by omega
              obtain ⟨b, o, x, rfl, hxk, hlies, hwf⟩ := HO2.out.at (k := i) (by omega)
              have HX := Lib.hid hwf
              have hl2 := hlies.below HBz.out
              have d0 := hl2.c0
              have d1 := hl2.c1
              clear hlies hl2 hxk
              go_upto_region 21 with (fail)
              have B1 := (Below.refl wr.heap.size wr).alloc (Nat.le_refl _) (.cells #[.int .u8 (x.what.toNat : Int), .int .i64 x.b] 36)
              have R1 := alloc_rowV wr 36 [.int .u8 (x.what.toNat : Int), .int .i64 x.b]
              have HA3 := Lib.hid (HA.out.kept B1)
              have HB3 := Lib.hid (HBz.out.trans (B1.mono HBz.out.size))
              have HI3 := Lib.hid (HI.out.below B1)
              have HW3 := Lib.hid (Nat.le_trans HWz.out B1.size)
              have HRN := Lib.hid (show wr.heap.size ≠ cb ∧ wr.heap.size ≠ mb from by have := HLT.out; have := HWz.out; omega)
              clear d0 d1 B1 HA HBz HI HWz
              generalize wr.alloc (.cells #[.int .u8 (x.what.toNat : Int), .int .i64 x.b] 36) = w3 at *
              obtain ⟨r, hr⟩ : ∃ r, r = wr.heap.size := ⟨_, rfl⟩
              rw [← hr] at R1 HRN ⊢
              have HR3 := Lib.hid R1
              clear hr R1
              have d0 := HR3.out.cellAt (i := 0) rfl
              have d1 := HR3.out.cellAt (i := 1) rfl
              have hq4 := u8_lt x.what
              have hjz : (0 : Int) < (j : Int) := by omega
              have hj60 : (j : Int) ≤ 60 := by omega
              have hl := Int.lt_tmod_of_pos x.b hjz
              have hu := Int.tmod_lt_of_pos x.b hjz
              have hsp := spot_is (n := j) (by omega) x.b
              have hz : ¬ ((j : Int) = 0) := by omega
              have hsp2 : (x.b.tmod (j : Int) + (j : Int)) % (j : Int) = (spot j x.b : Int) := by rw [← Int.tmod_eq_emod_of_nonneg (by omega)]; exact hsp
              have hxw : -9223372036854775808 ≤ x.b ∧ x.b ≤ 9223372036854775807 := by
                have h2 : IntKind.i64.min ≤ x.b ∧ x.b ≤ IntKind.i64.max := by simpa [Lit.wf] using hwf
                exact h2
              clear hwf
              by_cases hm : x.what.toNat % 4 = 2
              · have hm4 : (x.what.toNat : Int) % 4 = 2 := by omega
                clear hm
                go_wp2_with fail
                have HMO4 := Lib.hid (HMO.out.more (show 80 + i ≤ 80 + i + 1 by omega))
                clear HMO
                have HA4 := HA3
                have HB4 := HB3
                have HI4 := HI3
                have HW4 := HW3
                have HSN4 := HSN
                have HSK4 := HSK
                clear HA3 HB3 HI3 HW3 HSN HSK
                obtain ⟨s4, hs4⟩ : ∃ s4, s4 = s := ⟨_, rfl⟩
                rw [← hs4] at HA4 HSN4 HSK4 HMO4
                clear hs4
                have hp : spot j x.b < s4.n := by rw [HSN4.out]; exact spot_lt (by omega) x.b
                have hcm := (HMO4.out (spot j x.b)).1
                have hc65 : (s4.cnt (spot j x.b)).toNat < 65535 := by omega
                have HP := Lib.hid hp
                have HC6 := Lib.hid hc65
                have hcI : ((s4.cnt (spot j x.b)).toNat : Int) ≤ 65534 := by omega
                clear hp hc65
                go_wp2_with fail
                refine (get_yes HA4.out _ HP.out).mono ?_
                rintro e w' ⟨rfl, rfl⟩
                go_wp2_with fail
                refine (idle_at HA4.out).mono ?_
                rintro e w5 ⟨rfl, bz⟩
                have HA5 := Lib.hid (HA4.out.kept bz)
                have HB5 := Lib.hid (HB4.out.trans (bz.mono HB4.out.size))
                have HI5 := Lib.hid (HI4.out.below bz)
                have HW5 := Lib.hid (Nat.le_trans HW4.out bz.size)
                clear bz HA4 HI4 HW4
                go_wp2_with fail
                refine (up_eq HA5.out _ 0 (up_ok HP.out HC6.out)).mono ?_
                rintro e w6 ⟨rfl, az, bz⟩
                have HA6 := Lib.hid az
                have HB6 := Lib.hid (HB5.out.trans (bz.below HC.out HM.out HB5.out.size))
                have HI6 := Lib.hid (HI5.out.but bz HLT.out.2.1 HLT.out.2.2)
                have HW6 := Lib.hid (Nat.le_trans HW5.out bz.size)
                clear az bz HA5 HI5 HW5
                go_wp2_with fail
                refine (get_eq HA6.out _ (by rw [n_put]; exact HP.out) ((s4.cnt (spot j x.b)).toNat + 1 : Int) (by rw [cnt_up HP.out HC6.out]; omega)).mono ?_
                rintro e w' ⟨rfl, rfl⟩
                go_wp2_with fail
                refine (down_eq HA6.out _ 0 (down_up HP.out HC6.out)).mono ?_
                rintro e w7 ⟨rfl, az, bz⟩
                have HA7 := Lib.hid az
                have HB7 := Lib.hid (HB6.out.trans (bz.below HC.out HM.out HB6.out.size))
                have HI7 := Lib.hid (HI6.out.but bz HLT.out.2.1 HLT.out.2.2)
                have HW7 := Lib.hid (Nat.le_trans HW6.out bz.size)
                clear az bz HA6 HI6 HW6
                go_wp2_with fail
                refine (get_yes HA7.out _ HP.out).mono ?_
                rintro e w' ⟨rfl, rfl⟩
                go_wp2_with fail
                refine (idle_at HA7.out).mono ?_
                rintro e w8 ⟨rfl, bz⟩
                have HA8 := Lib.hid (HA7.out.kept bz)
                have HB8 := Lib.hid (HB7.out.trans (bz.mono HB7.out.size))
                have HI8 := Lib.hid (HI7.out.below bz)
                have HW8 := Lib.hid (Nat.le_trans HW7.out bz.size)
                clear bz HA7 HI7 HW7
                go_wp2_with fail
                go_roundw
                case rel => exact ⟨i + 1, by omega, by go_num, Lib.hid ⟨_, HSN4.out, HSK4.out, HMO4.out, HA8.out⟩, HB8, HI8, HW8⟩
                case measure => simp [Go.RowKit.intOf]; omega
              · have hm4 : ¬ ((x.what.toNat : Int) % 4 = 2) := by omega
                have HNQ := Lib.hid hm
                clear hm
                go_wp2_with fail
                refine (done_at HA3.out x HX.out).mono ?_
                rintro e w4 ⟨rfl, az, bz⟩
                have HA4 := Lib.hid az
                have HB4 := Lib.hid (HB3.out.trans (bz.below HC.out HM.out HB3.out.size))
                have hr4 := row_but HR3.out bz HRN.out.1 HRN.out.2
                have HI4 := Lib.hid (HI3.out.but bz HLT.out.2.1 HLT.out.2.2)
                have HW4 := Lib.hid (Nat.le_trans HW3.out bz.size)
                have HSN4 := Lib.hid (show (s.did x).n = j by rw [n_did HA3.out.ok, HSN.out])
                have HSK4 := Lib.hid (show (s.did x).kept = K by rw [did_kept HNQ.out, HSK.out])
                have HMO4 := Lib.hid (HMO.out.did x)
                clear d0 d1
                have d1 := hr4.cellAt (i := 1) rfl
                clear az bz hr4 HA3 HB3 HI3 HW3 HSN HSK HMO
                dsimp only
                obtain ⟨s4, hs4⟩ : ∃ s4, s4 = s.did x := ⟨_, rfl⟩
                rw [← hs4] at HA4 HSN4 HSK4 HMO4
                clear hs4
                have hp : spot j x.b < s4.n := by rw [HSN4.out]; exact spot_lt (by omega) x.b
                have hcm := (HMO4.out (spot j x.b)).1
                have hc65 : (s4.cnt (spot j x.b)).toNat < 65535 := by omega
                have HP := Lib.hid hp
                have HC6 := Lib.hid hc65
                have hcI : ((s4.cnt (spot j x.b)).toNat : Int) ≤ 65534 := by omega
                clear hp hc65
                go_wp2_with fail
                refine (get_yes HA4.out _ HP.out).mono ?_
                rintro e w' ⟨rfl, rfl⟩
                go_wp2_with fail
                refine (idle_at HA4.out).mono ?_
                rintro e w5 ⟨rfl, bz⟩
                have HA5 := Lib.hid (HA4.out.kept bz)
                have HB5 := Lib.hid (HB4.out.trans (bz.mono HB4.out.size))
                have HI5 := Lib.hid (HI4.out.below bz)
                have HW5 := Lib.hid (Nat.le_trans HW4.out bz.size)
                clear bz HA4 HI4 HW4
                go_wp2_with fail
                refine (up_eq HA5.out _ 0 (up_ok HP.out HC6.out)).mono ?_
                rintro e w6 ⟨rfl, az, bz⟩
                have HA6 := Lib.hid az
                have HB6 := Lib.hid (HB5.out.trans (bz.below HC.out HM.out HB5.out.size))
                have HI6 := Lib.hid (HI5.out.but bz HLT.out.2.1 HLT.out.2.2)
                have HW6 := Lib.hid (Nat.le_trans HW5.out bz.size)
                clear az bz HA5 HI5 HW5
                go_wp2_with fail
                refine (get_eq HA6.out _ (by rw [n_put]; exact HP.out) ((s4.cnt (spot j x.b)).toNat + 1 : Int) (by rw [cnt_up HP.out HC6.out]; omega)).mono ?_
                rintro e w' ⟨rfl, rfl⟩
                go_wp2_with fail
                refine (down_eq HA6.out _ 0 (down_up HP.out HC6.out)).mono ?_
                rintro e w7 ⟨rfl, az, bz⟩
                have HA7 := Lib.hid az
                have HB7 := Lib.hid (HB6.out.trans (bz.below HC.out HM.out HB6.out.size))
                have HI7 := Lib.hid (HI6.out.but bz HLT.out.2.1 HLT.out.2.2)
                have HW7 := Lib.hid (Nat.le_trans HW6.out bz.size)
                clear az bz HA6 HI6 HW6
                go_wp2_with fail
                refine (get_yes HA7.out _ HP.out).mono ?_
                rintro e w' ⟨rfl, rfl⟩
                go_wp2_with fail
                refine (idle_at HA7.out).mono ?_
                rintro e w8 ⟨rfl, bz⟩
                have HA8 := Lib.hid (HA7.out.kept bz)
                have HB8 := Lib.hid (HB7.out.trans (bz.mono HB7.out.size))
                have HI8 := Lib.hid (HI7.out.below bz)
                have HW8 := Lib.hid (Nat.le_trans HW7.out bz.size)
                clear bz HA7 HI7 HW7
                go_wp2_with fail
                go_roundw
                case rel => exact ⟨i + 1, by omega, by go_num, Lib.hid ⟨_, HSN4.out, HSK4.out, HMO4.out, HA8.out⟩, HB8, HI8, HW8⟩
                case measure => simp [Go.RowKit.intOf]; omega
            · obtain rfl : i = m2 := by omega
              go_wp2_with fail
              refine (back_at HA.out).mono ?_
              rintro e w2 ⟨rfl, az, bz⟩
              have HA3 := Lib.hid (show At w2 a cb mb j ⟨K, K⟩ by have := az; unfold St.back at this; rw [HSK.out] at this; exact this)
              have HB3 := Lib.hid (HBz.out.trans (bz.below HC.out HM.out HBz.out.size))
              have hi3 := HI.out.but bz HLT.out.2.1 HLT.out.2.2
              obtain ⟨g, vc, rfl⟩ := hi3.all (by omega)
              have HI3 := Lib.hid hi3
              clear az bz HA HBz HI HWz HSN HSK HMO hi3
              dsimp only
              go_wp2_with fail
              go_loopw [126] (fun c wz => ∃ i : Nat, i ≤ j ∧ c = .int .i64 (i : Int) ∧ Hid (At wz a cb mb j ⟨K, K⟩) ∧ Hid (Below w.heap.size w wz) ∧ Hid (OwnI wz B (.slice (some ⟨g, 0, none⟩) j vc) ((St.mk K K).all j))) (fun c _ => j - (Go.RowKit.intOf c).toNat)
              case atStart => exact ⟨0, by omega, rfl, HA3, HB3, HI3⟩
              case round =>
                obtain ⟨i, hi, rfl, HA, HBz, HI⟩ := hrel
                by_cases hli : i < j
                · have hii : (i : Int) < (j : Int) := by omega
                  have hgi : (0 : Int) ≤ (i : Int) := by omega
                  have cw := HI.out.cellAll hli
                  have hin : i < (St.mk K K).n := by rw [HN1.out]; exact hli
                  go_upto_region 32 with (fail)
                  go_quiet ((go_at_call 13; exact Calls.quiet_of_same (calls_flip (get_yes (HA.out.drewN _) i hin))))
                  have HS := Lib.hid (show Still wr (wr.drewN nq) from ⟨rfl, rfl, rfl, rfl⟩)
                  have HA2 := Lib.hid (HA.out.drewN nq)
                  have HB2 := Lib.hid (HBz.out.trans (HS.out.below _))
                  have HI2 := Lib.hid (HI.out.still HS.out)
                  go_wp2_with fail
                  go_roundw
                  case rel => exact ⟨i + 1, by omega, by go_num, HA2, HB2, HI2⟩
                  case measure => simp [Go.RowKit.intOf]; omega
                · obtain rfl : i = j := by omega
                  go_wp2_with fail
                  refine (frees_eq HA.out (fr : Int) (by rw [HFR.out])).mono ?_
                  rintro e w4 ⟨rfl, bz⟩
                  have HA4 := Lib.hid (HA.out.kept bz)
                  have HB4 := Lib.hid (HBz.out.trans (bz.mono HBz.out.size))
                  clear bz
                  go_wp2_with fail
                  refine (idle_eq HA4.out 0 (by rw [idle_same]; rfl)).mono ?_
                  rintro e w5 ⟨rfl, bz⟩
                  have HA5 := Lib.hid (HA4.out.kept bz)
                  have HB5 := Lib.hid (HB4.out.trans (bz.mono HB4.out.size))
                  clear bz
                  go_wp2_with fail
                  refine (list_eq HA5.out [] (changed_same K)).mono ?_
                  rintro e w6 ⟨v, rfl, lz, bz⟩
                  obtain ⟨VA, vc2, rfl, _⟩ := lz
                  have HB6 := Lib.hid (HB5.out.trans (bz.mono HB5.out.size))
                  clear bz
                  go_wp2_with fail
                  refine (awake_any _).mono ?_
                  rintro e w7 ⟨rfl, bz⟩
                  have HB7 := Lib.hid (HB6.out.trans (bz.mono HB6.out.size))
                  clear bz
                  go_wp2_with fail
                  go_ret
                  exact ⟨rfl, HB7.out⟩
end Go.Proofs.Ytigmgaedpdeleaa.Tl
