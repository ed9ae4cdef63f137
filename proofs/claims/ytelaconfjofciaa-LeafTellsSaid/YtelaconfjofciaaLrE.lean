/- The reference's Decode: the walk. -/
import Derived.Test.YtelaconfjofciaaLrD
import Derived.Deep.DeepCutAuto
namespace Go.Proofs.Ytelaconfjofciaa.Lf
open Go.RowKit Go.Proofs.Ytelaconfjofciaa.Oct
set_option linter.unusedVariables false

set_option maxRecDepth 100000 in
set_option maxHeartbeats 1000000 in
theorem rdecode_len (a : Option Addr) (len cap : Nat) (w : World) (h : len ≠ 128) (hm : len ≤ maxLen) :
    Calls Try.prog 15 #[.slice a len cap] w (DecNo w) := by
  have BB := Lib.hid ((Below.refl w.heap.size w).alloc (Nat.le_refl _) (.cells #[.bool false, .slice none 0 0, .slice none 0 0] 24))
  have RS := Lib.hid (res_new w)
  go_enter Try.func15, Try.ntmps15
  go_wp2_with fail
  refine (ropen_len a len cap _ h hm).mono ?_
  rintro e w2 ⟨rfl, S2⟩
  have R2 := RS.out.below (S2.below _) RS.out.lt
  obtain ⟨y0, y1, y2, yf, yl⟩ := R2
  have f0 := yf 0
  have f1 := yf 1
  have f2 := yf 2
  have B2 := Lib.hid ((((BB.out.trans (S2.below _)).setCell (p := ⟨w.heap.size, 0, none⟩) (Nat.le_refl _) (.bool false)).setCell (p := ⟨w.heap.size, 1, none⟩) (Nat.le_refl _) (.slice none 0 0)).setCell (p := ⟨w.heap.size, 2, none⟩) (Nat.le_refl _) (.slice none 0 0))
  clear S2 yf
  go_wp2_with fail
  refine bodyPost_ret (v := .tuple #[.agg #[.bool false, .slice none 0 0, .slice none 0 0], .int .i64 30]) ?_ rfl ⟨rfl, B2.out⟩
  rw [results_cell_tmp rfl]
  go_simp

set_option maxRecDepth 100000 in
set_option maxHeartbeats 1000000 in
theorem rdecode_sum (b o cap : Nat) (ps : List UInt8) (w : World) (hb : Has w b o ps) (hlen : ps.length = 128) (hc : 128 ≤ cap) (hm : cap ≤ maxLen) (hs : ¬ Oct.Good ps) :
    Calls Try.prog 15 #[.slice (some ⟨b, o, none⟩) 128 cap] w (DecNo w) := by
  have b1 := (Below.refl w.heap.size w).alloc (Nat.le_refl _) (.cells #[.bool false, .slice none 0 0, .slice none 0 0] 24)
  have HB := Lib.hid (hb.below (has_lt hb (by omega)) b1)
  have BB := Lib.hid b1
  have RS := Lib.hid (res_new w)
  have HL := Lib.hid hlen
  have HS := Lib.hid hs
  have HM := Lib.hid hm
  clear hb hlen b1 hs hm
  go_enter Try.func15, Try.ntmps15
  go_wp2_with fail
  refine (ropen_bad b o cap ps _ HB.out HL.out hc HM.out HS.out).mono ?_
  rintro e w2 ⟨rfl, S2⟩
  have R2 := RS.out.below (S2.below _) RS.out.lt
  obtain ⟨y0, y1, y2, yf, yl⟩ := R2
  have f0 := yf 0
  have f1 := yf 1
  have f2 := yf 2
  have B2 := Lib.hid ((((BB.out.trans (S2.below _)).setCell (p := ⟨w.heap.size, 0, none⟩) (Nat.le_refl _) (.bool false)).setCell (p := ⟨w.heap.size, 1, none⟩) (Nat.le_refl _) (.slice none 0 0)).setCell (p := ⟨w.heap.size, 2, none⟩) (Nat.le_refl _) (.slice none 0 0))
  clear S2 yf
  go_wp2_with fail
  refine bodyPost_ret (v := .tuple #[.agg #[.bool false, .slice none 0 0, .slice none 0 0], .int .i64 30]) ?_ rfl ⟨rfl, B2.out⟩
  rw [results_cell_tmp rfl]
  go_simp

theorem number_y (b o cap : Nat) (bs : List UInt8) (hlen : bs.length = 8) (y : UInt64) (hy : y = UInt64.ofNat (num bs)) (w : World) (hb : Has w b o bs) :
    Calls Try.prog 34 #[.slice (some ⟨b, o, none⟩) 8 cap] w fun e w' => e = .returned (.int .u64 (y.toNat : Int)) ∧ w = w' := by
  have h := number_any b o 8 cap bs hlen w (by omega) hb
  have : (y.toNat : Int) = (num bs : Int) := by
    have := num_lt8 bs (by omega)
    rw [hy]
    simp
    omega
  rw [this]
  exact h
theorem cAt_head (bs : List UInt8) (h : bs.length = 123) : ∃ k : UInt8, bs[0]? = some k ∧ (cAt bs).toNat = k.toNat := by
  cases bs with
  | nil => simp at h
  | cons a t =>
    refine ⟨a, rfl, ?_⟩
    have := u8_lt a
    simp [cAt, num]

/-- The reference's Decode of a page that holds a node: the node, in rows of its own. -/
structure RDecYes (w : World) (ps : List UInt8) (e : Ending) (w' : World) (vK vV : Value) (base : Nat) : Prop where
  e : e = .returned (.tuple #[.agg #[.bool (leafIn ps), vK, vV], .int .i64 0])
  ks : OwnN w' base vK (keysIn ps)
  vs : OwnN w' base vV (valsIn ps)
  lo : w.heap.size ≤ base
  below : Below w.heap.size w w'

set_option maxRecDepth 100000 in
set_option maxHeartbeats 4000000 in
theorem rdecode_good (b o cap : Nat) (ps : List UInt8) (w : World) (hb : Has w b o ps) (hlen : ps.length = 128) (hc : 128 ≤ cap) (hm : cap ≤ maxLen) (hs : Oct.Good ps) :
    Calls Try.prog 15 #[.slice (some ⟨b, o, none⟩) 128 cap] w (fun e w' => (Holds ps ∧ ∃ vK vV base, RDecYes w ps e w' vK vV base) ∨ (¬ Holds ps ∧ DecNo w e w')) := by
  have b1 := (Below.refl w.heap.size w).alloc (Nat.le_refl _) (.cells #[.bool false, .slice none 0 0, .slice none 0 0] 24)
  have HB := Lib.hid (hb.below (has_lt hb (by omega)) b1)
  have BB := Lib.hid b1
  have RS := Lib.hid (res_new w)
  have HL := Lib.hid hlen
  have HS := Lib.hid hs
  have HK : ps[0]'(by omega) = headIn ps := by unfold headIn; rw [List.getD, List.getElem?_eq_getElem (by omega)]; rfl
  have hO := ropen_good b o cap ps _ HB.out hlen hc hm hs
  rw [HK] at hO
  have HO := Lib.hid hO
  have hbl : (bodyIn ps).length = 123 := by unfold bodyIn; simp; omega
  have HBL := Lib.hid hbl
  clear hb hlen b1 hs hm HK hO hbl
  go_enter Try.func15, Try.ntmps15
  go_wp2_with fail
  refine HO.out.mono ?_
  rintro e w2 ⟨v, rfl, O2, B2⟩
  have O2' : Own w2 (w.alloc (.cells #[.bool false, .slice none 0 0, .slice none 0 0] 24)).heap.size v (bodyIn ps) := O2
  obtain ⟨a, cp, rfl, hT, hcp, hcm, hq⟩ := O2'.slice
  obtain ⟨g, rfl, hg0, hg1, hG⟩ := hq (fun h => by have := HBL.out; rw [h] at this; simp at this)
  have R2 := RS.out.below B2 RS.out.lt
  have HR2 := Lib.hid R2
  have BB2 := Lib.hid (BB.out.trans (B2.mono BB.out.size))
  have HG := Lib.hid hG
  have hrg : w.heap.size < g := Nat.lt_of_lt_of_le (by simp) hg0
  rw [HBL.out] at hcp ⊢
  unfold maxLen at hcm
  clear O2 O2' B2 hT hq hG HO hg0 R2
  obtain ⟨y0, y1, y2, yf, yl⟩ := HR2.out
  have f0 := yf 0
  have f1 := yf 1
  have f2 := yf 2
  have hku := u8_lt (headIn ps)
  by_cases hk12 : headIn ps = 1 ∨ headIn ps = 2
  · have hkd : (((headIn ps).toNat : Int) == 1) = leafIn ps := by
      unfold leafIn
      rw [Bool.eq_iff_iff, beq_iff_eq, beq_iff_eq, ← UInt8.toNat_inj]
      show _ ↔ (headIn ps).toNat = 1
      omega
    have hk1 : 1 ≤ (headIn ps).toNat := by rcases hk12 with h | h <;> rw [h] <;> decide
    have hk2 : (headIn ps).toNat ≤ 2 := by rcases hk12 with h | h <;> rw [h] <;> decide
    have HK12 := Lib.hid hk12
    clear hk12
    go_upto_region 5 with (fail)
    have HRD := Lib.hid (show RD w (w2.alloc (.cells #[.bool (leafIn ps), .slice none 0 0, .slice none 0 0] 24)) (w2.heap.size + 1) w2.heap.size w.heap.size g (leafIn ps) [] [] (.slice none 0 0) (.slice none 0 0) (bodyIn ps) from
      ⟨box_cell w2 _ _ 0 _ rfl, box_cell w2 _ _ 1 _ rfl, box_cell w2 _ _ 2 _ rfl, fun i => box_free w2 _ _ i, ⟨rfl, .inl ⟨rfl, rfl⟩⟩, ⟨rfl, .inl ⟨rfl, rfl⟩⟩, fun k e => by simp [Value.ownBlock] at e,
        HG.out.below hg1 ((Below.refl w2.heap.size w2).alloc (Nat.le_refl _) _), HR2.out.below ((Below.refl w2.heap.size w2).alloc (Nat.le_refl _) _) HR2.out.lt, BB2.out.alloc BB2.out.size _, by omega, by omega, by omega, BB2.out.size, by simp, by omega, by omega⟩)
    generalize w2.alloc (.cells #[.bool (leafIn ps), .slice none 0 0, .slice none 0 0] 24) = w3 at *
    generalize w2.heap.size = q at *
    obtain ⟨k0, hk0, hcn⟩ := cAt_head (bodyIn ps) HBL.out
    have hk0u := u8_lt k0
    have HCN := Lib.hid hcn
    have HK0 := Lib.hid hk0
    have hne1 : ¬ cp = 1 := by omega
    clear hcn hk0 y0 y1 y2 yf yl f0 f1 f2 HG HR2 BB2 HB BB RS
    go_wp2_with fail
    go_loopw [8, 9] (fun s i wr => ∃ (z L cq : Nat), L + 16 * z = 122 ∧ z ≤ k0.toNat ∧ i = .int .i64 (z : Int) ∧ s = .slice (some ⟨g, 1 + 16 * z, none⟩) L cq ∧ L ≤ cq ∧ cq ≤ 9223372036854775807 ∧ Hid (∃ vK vV, RD w wr (q + 1) q w.heap.size g (leafIn ps) ((List.range z).map (kAt (bodyIn ps))) ((List.range z).map (vAt (bodyIn ps))) vK vV (bodyIn ps))) (fun _ i _ => k0.toNat - (intOf i).toNat)
    case atStart => exact ⟨0, 122, cp - 1, by omega, Nat.zero_le _, rfl, rfl, by omega, by omega, Lib.hid ⟨_, _, HRD.out⟩⟩
    case round =>
      obtain ⟨z, L, cq, hz7, hzk, rfl, rfl, hq1, hq2, HX⟩ := hrel
      obtain ⟨vK, vV, RX⟩ := HX.out
      have HRX := Lib.hid RX
      have cb := has_at RX.body HK0.out
      clear RX HX
      by_cases hlt : z < k0.toNat
      · by_cases h6 : z < 7
        · have hbody := HRX.out.body
          have HN1 := Lib.hid (show Has wr.drew g (1 + 16 * z) (((bodyIn ps).drop (1 + 16 * z)).take 8) by have := (hbody.still (Still.drew wr)).cut (1 + 16 * z) 8; rwa [Nat.zero_add] at this)
          have HN1l := Lib.hid (show (((bodyIn ps).drop (1 + 16 * z)).take 8).length = 8 by have := HBL.out; simp; omega)
          have HN2l := Lib.hid (show (((bodyIn ps).drop (9 + 16 * z)).take 8).length = 8 by have := HBL.out; simp; omega)
          have HRK := Lib.hid (show (List.range (z + 1)).map (kAt (bodyIn ps)) = (List.range z).map (kAt (bodyIn ps)) ++ [kAt (bodyIn ps) z] by rw [List.range_succ, List.map_append]; rfl)
          have HRV := Lib.hid (show (List.range (z + 1)).map (vAt (bodyIn ps)) = (List.range z).map (vAt (bodyIn ps)) ++ [vAt (bodyIn ps) z] by rw [List.range_succ, List.map_append]; rfl)
          have HY1 := Lib.hid (show kAt (bodyIn ps) z = UInt64.ofNat (num (((bodyIn ps).drop (1 + 16 * z)).take 8)) from rfl)
          have HY2 := Lib.hid (show vAt (bodyIn ps) z = UInt64.ofNat (num (((bodyIn ps).drop (9 + 16 * z)).take 8)) from rfl)
          have HKL := Lib.hid (show ((List.range z).map (kAt (bodyIn ps))).length ≤ 1000 by simp; omega)
          have HVL := Lib.hid (show ((List.range z).map (vAt (bodyIn ps))).length ≤ 1000 by simp; omega)
          generalize (List.range z).map (kAt (bodyIn ps)) = kn at *
          generalize (List.range z).map (vAt (bodyIn ps)) = vn at *
          generalize kAt (bodyIn ps) z = y1 at *
          generalize vAt (bodyIn ps) z = y2 at *
          have c1 := HRX.out.c1
          have c2 := HRX.out.c2
          have hql : q < wr.heap.size := by have := HRX.out.b0; omega
          have HA1 := Lib.hid ((HRX.out.below ((Below.refl wr.heap.size wr).alloc (Nat.le_refl _) (.cells #[.int .u64 (y1.toNat : Int)] 43))).still (Still.drew _))
          have HC1 := Lib.hid (show (wr.alloc (.cells #[.int .u64 (y1.toNat : Int)] 43)).drew.cell? ⟨wr.heap.size, 0, none⟩ = some (.int .u64 (y1.toNat : Int)) from box_cell wr _ _ 0 _ rfl)
          have hL16 : (16 : Int) ≤ (L : Int) := by omega
          have hcq : (16 : Int) ≤ (cq : Int) := by omega
          have h8n : ¬ cq = 8 := by omega
          have ht : Try.prog.underlying 25 = some (.slice (Try.prog.elem 25)) := by simp [Program.elem, Try.underlying25]
          have he : Try.prog.elem 25 = 5 := by simp [Program.elem, Try.underlying25]
          have hz1 : ∀ w, (Go.sizeOf 5).run Try.prog w = .ok 1 w := fun _ => by kernel_rfl
          have s1 : ∀ w', (Instr.slice 25 (.slice (some ⟨g, 1 + 16 * z, none⟩) L cq) none (some (.int .i64 8)) none).run Try.prog w' = .ok (.slice (some ⟨g, 1 + 16 * z, none⟩) 8 cq) w' := fun w' => by
            rw [run_slice_h w' 25 _ L cq ht .i64 8 (by omega) (by omega), he, hz1]
            have : ¬ cq = 0 := by omega
            simp [Result.andThen, sliced, this, add_plain]
          have s2 : ∀ w', (Instr.slice 25 (.slice (some ⟨g, 1 + 16 * z, none⟩) L cq) (some (.int .i64 8)) (some (.int .i64 16)) none).run Try.prog w' = .ok (.slice (some ⟨g, 9 + 16 * z, none⟩) 8 (cq - 8)) w' := fun w' => by
            rw [run_slice_lh w' 25 _ L cq ht .i64 .i64 8 16 (by omega) (by omega) (by omega), he, hz1]
            have : ¬ cq = 8 := by omega
            simp [Result.andThen, sliced, this, add_plain] <;> omega
          have s3 : ∀ w', (Instr.slice 25 (.slice (some ⟨g, 1 + 16 * z, none⟩) L cq) (some (.int .i64 16)) none none).run Try.prog w' = .ok (.slice (some ⟨g, 1 + 16 * (z + 1), none⟩) (L - 16) (cq - 16)) w' := fun w' => by
            rw [run_slice_l w' 25 _ L cq ht .i64 16 (by omega) (by omega), he, hz1]
            have : ¬ cq = 16 := by omega
            simp [Result.andThen, sliced, this, add_plain] <;> omega
          clear ht he hz1
          have h16n : ¬ cq = 16 := by omega
          clear hbody
          go_wp2_with fail
          go_region_law (first | (refine step_app_num rfl (.tmp 46) (.tmp 50) rfl (q + 1) vK kn rfl HA1.out.ok HKL.out wr.heap.size y1 rfl HC1.out HA1.out.b0 ?_; intro j cap' w5 O5 G5 L5; have HPK := Lib.hid (RD.pushK HA1.out O5 G5 L5); have hmid := HA1.out.mid G5 (fun k e => (World.ownsRow.lt HA1.out.ok k e).1); obtain ⟨⟨n1, n2⟩, ⟨n3, n4⟩⟩ := hmid; clear O5 G5 L5) | (go_simp; go_at_call 34; refine (number_y g (1 + 16 * z) cq _ HN1l.out y1 HY1.out _ HN1.out).mono ?_; rintro e w4 ⟨rfl, rfl⟩))
          all_goals
            generalize w5.setCell ⟨q, 1, none⟩ (.slice (some ⟨j, 0, none⟩) (kn.length + 1) cap') = w6 at *
            have d1 := HPK.out.c1
            have d2 := HPK.out.c2
            have hql6 : q < w6.heap.size := by have := HPK.out.b0; omega
            have HN2 := Lib.hid (show Has w6.drew g (9 + 16 * z) (((bodyIn ps).drop (9 + 16 * z)).take 8) by have := (HPK.out.body.still (Still.drew w6)).cut (9 + 16 * z) 8; rwa [Nat.zero_add] at this)
            have HA2 := Lib.hid ((HPK.out.below ((Below.refl w6.heap.size w6).alloc (Nat.le_refl _) (.cells #[.int .u64 (y2.toNat : Int)] 43))).still (Still.drew _))
            have HC2 := Lib.hid (show (w6.alloc (.cells #[.int .u64 (y2.toNat : Int)] 43)).drew.cell? ⟨w6.heap.size, 0, none⟩ = some (.int .u64 (y2.toNat : Int)) from box_cell w6 _ _ 0 _ rfl)
            clear HA1 HC1 HN1 n1 n2 n3 n4 c1 c2 hql cb
            go_wp2_with fail
            go_region_law (first | (refine step_app_num rfl (.tmp 54) (.tmp 58) rfl (q + 1) vV vn rfl HA2.out.ov HVL.out w6.heap.size y2 rfl HC2.out HA2.out.b0 ?_; intro j2 cap2 w7 O7 G7 L7; have HPV := Lib.hid (RD.pushV HA2.out O7 G7 L7); have hmid := HA2.out.mid G7 (fun k e => (World.ownsRow.lt HA2.out.ov k e).1); obtain ⟨⟨n1, n2⟩, ⟨n3, n4⟩⟩ := hmid; clear O7 G7 L7) | (go_simp; go_at_call 34; refine (number_y g (9 + 16 * z) (cq - 8) _ HN2l.out y2 HY2.out _ HN2.out).mono ?_; rintro e w4 ⟨rfl, rfl⟩))
            all_goals
              generalize w7.setCell ⟨q, 2, none⟩ (.slice (some ⟨j2, 0, none⟩) (vn.length + 1) cap2) = w8 at *
              clear HA2 HC2 HN2 n1 n2 n3 n4 d1 d2 hql6
              go_wp2_with fail
              go_roundw
              case rel => exact ⟨z + 1, L - 16, cq - 16, by omega, by omega, by go_num, rfl, by omega, by omega, Lib.hid ⟨_, _, by rw [HRK.out, HRV.out]; exact HPV.out⟩⟩
              case measure => simp [intOf]; omega
        · obtain rfl : z = 7 := by omega
          obtain ⟨y0, y1, y2, yf, yl⟩ := HRX.out.res
          have f0 := yf 0
          have f1 := yf 1
          have f2 := yf 2
          have HNH := Lib.hid (show ¬ Holds ps from fun h => by have := h.2.2.1; rw [HCN.out] at this; omega)
          have B3 := Lib.hid (((HRX.out.bw.setCell (p := ⟨w.heap.size, 0, none⟩) (Nat.le_refl _) (.bool false)).setCell (p := ⟨w.heap.size, 1, none⟩) (Nat.le_refl _) (.slice none 0 0)).setCell (p := ⟨w.heap.size, 2, none⟩) (Nat.le_refl _) (.slice none 0 0))
          clear yf
          go_wp2_with fail
          refine bodyPost_ret (v := .tuple #[.agg #[.bool false, .slice none 0 0, .slice none 0 0], .int .i64 30]) ?_ rfl (Or.inr ⟨HNH.out, rfl, B3.out⟩)
          rw [results_cell_tmp rfl]
          go_simp
      · obtain rfl : z = k0.toNat := by omega
        have hR := HRX.out.body.cut (1 + 16 * k0.toNat) L
        rw [Nat.zero_add] at hR
        have hRl : (((bodyIn ps).drop (1 + 16 * k0.toNat)).take L).length = L := by have := HBL.out; simp; omega
        have HRE := Lib.hid (show ((bodyIn ps).drop (1 + 16 * k0.toNat)).take L = (bodyIn ps).drop (1 + 16 * k0.toNat) from List.take_of_length_le (by have := HBL.out; simp; omega))
        have HZH := Lib.hid (show Holds ps → ((bodyIn ps).drop (1 + 16 * k0.toNat)).take L = List.replicate L 0 from fun h => by
          have h1 := zeros_holds h
          rw [HCN.out] at h1
          rw [HRE.out, h1]
          congr 1
          omega)
        have HOF := Lib.hid (show ((bodyIn ps).drop (1 + 16 * k0.toNat)).take L = List.replicate L 0 → Fit (leafIn ps) (keysIn ps) (valsIn ps) → Holds ps from fun h1 h2 =>
          holds_of HL.out HS.out (by rw [HCN.out]; omega) h2 HK12.out (by rw [HCN.out, ← HRE.out, h1]; congr 1; omega))
        have HKI := Lib.hid (show keysIn ps = (List.range k0.toNat).map (kAt (bodyIn ps)) by unfold keysIn; rw [HCN.out]; exact upTo_seven _ _ (by omega))
        have HVI := Lib.hid (show valsIn ps = (List.range k0.toNat).map (vAt (bodyIn ps)) by unfold valsIn; rw [HCN.out]; exact upTo_seven _ _ (by omega))
        have HHF := Lib.hid (show Holds ps → Fit (leafIn ps) (keysIn ps) (valsIn ps) from fun h => h.2.2.2.1)
        generalize ((bodyIn ps).drop (1 + 16 * k0.toNat)).take L = rest at *
        have HR := Lib.hid hR
        have HRL := Lib.hid hRl
        clear hR hRl HRE
        go_wp2_with fail
        go_loop [10] (fun i => ∃ y : Nat, y ≤ L ∧ i = .int .i64 (y : Int) ∧ Hid (rest.take y = List.replicate y 0)) (fun i => L - (intOf i).toNat)
        case atStart => exact ⟨0, Nat.zero_le _, rfl, Lib.hid (by simp)⟩
        case round =>
          obtain ⟨y, hy, rfl, HZ⟩ := hrel
          by_cases hly : y < L
          · have hyr : y < rest.length := by rw [HRL.out]; exact hly
            have cy := HR.out y hyr
            have HS1 := Lib.hid (show rest.take (y + 1) = rest.take y ++ [rest[y]'hyr] from List.take_succ_eq_append_getElem hyr)
            have HG1 := Lib.hid (show rest[y]? = some (rest[y]'hyr) from List.getElem?_eq_getElem hyr)
            generalize rest[y]'hyr = by' at cy HS1 HG1
            have hbu := u8_lt by'
            have iy : (y : Int) < (L : Int) := by omega
            by_cases hb0 : by' = 0
            · subst hb0
              have cy0 : wr.cell? ⟨g, 1 + 16 * k0.toNat + y, none⟩ = some (.int .u8 0) := cy
              clear cy hbu
              go_wp2_with fail
              go_round
              case rel => exact ⟨y + 1, by omega, by go_num, Lib.hid (by rw [HS1.out, HZ.out, List.replicate_succ'])⟩
              case measure => simp [intOf]; omega
            · have hbn : ((by'.toNat : Int) != 0) = true := by
                rw [bne_iff_ne]
                intro e
                exact hb0 (UInt8.toNat_inj.1 (by show by'.toNat = 0; omega))
              have HNH := Lib.hid (show ¬ Holds ps from fun h => by
                have h1 := HZH.out h
                have h2 := HG1.out
                rw [h1, List.getElem?_replicate, if_pos hly] at h2
                exact hb0 (Option.some.inj h2).symm)
              obtain ⟨y0, y1, y2, yf, yl⟩ := HRX.out.res
              have f0 := yf 0
              have f1 := yf 1
              have f2 := yf 2
              have B3 := Lib.hid (((HRX.out.bw.setCell (p := ⟨w.heap.size, 0, none⟩) (Nat.le_refl _) (.bool false)).setCell (p := ⟨w.heap.size, 1, none⟩) (Nat.le_refl _) (.slice none 0 0)).setCell (p := ⟨w.heap.size, 2, none⟩) (Nat.le_refl _) (.slice none 0 0))
              clear yf hb0
              go_wp2_with fail
              refine bodyPost_ret (v := .tuple #[.agg #[.bool false, .slice none 0 0, .slice none 0 0], .int .i64 30]) ?_ rfl (Or.inr ⟨HNH.out, rfl, B3.out⟩)
              rw [results_cell_tmp rfl]
              go_simp
          · obtain rfl : y = L := by omega
            have HZ2 := Lib.hid (show rest = List.replicate y 0 by have := HZ.out; rwa [List.take_of_length_le (by rw [HRL.out]; exact Nat.le_refl _)] at this)
            obtain ⟨a1, cp1, hv1, hT1, hc1, hm1⟩ := HRX.out.ok.slice
            obtain ⟨a2, cp2, hv2, hT2, hc2, hm2⟩ := HRX.out.ov.slice
            simp only [List.length_map, List.length_range] at hv1 hv2 hc1 hc2
            subst hv1 hv2
            have ND := Lib.hid (show Nd wr a1 k0.toNat cp1 a2 k0.toNat cp2 (keysIn ps) (valsIn ps) from ⟨by rw [HKI.out]; simp, by rw [HVI.out]; simp, hc1, hm1, hc2, hm2, by rw [HKI.out]; exact hT1, by rw [HVI.out]; exact hT2⟩)
            have c0 := HRX.out.c0
            have c1 := HRX.out.c1
            have c2 := HRX.out.c2
            clear hT1 hT2 hm1 hm2 HZ
            go_wp2_with fail
            refine (rright_any (leafIn ps) ND.out (by omega) (by omega)).mono ?_
            rintro e w9 ⟨rfl, B9⟩
            have HR9 := Lib.hid (HRX.out.below B9)
            obtain ⟨y0, y1, y2, yf, yl⟩ := HR9.out.res
            have f0 := yf 0
            have f1 := yf 1
            have f2 := yf 2
            have d0 := HR9.out.c0
            have d1 := HR9.out.c1
            have d2 := HR9.out.c2
            clear B9 c0 c1 c2 yf
            by_cases hfit : Fit (leafIn ps) (keysIn ps) (valsIn ps)
            · rw [decide_eq_true hfit]
              have HH := Lib.hid (HOF.out HZ2.out hfit)
              clear hfit
              go_wp2_with fail
              have hqq : w.heap.size < q + 1 := HR9.out.r0
              have OK : OwnN (((w9.setCell ⟨w.heap.size, 0, none⟩ (.bool (leafIn ps))).setCell ⟨w.heap.size, 1, none⟩ (.slice a1 k0.toNat cp1)).setCell ⟨w.heap.size, 2, none⟩ (.slice a2 k0.toNat cp2)) (q + 1) (.slice a1 k0.toNat cp1) (keysIn ps) := by
                rw [HKI.out]
                refine HR9.out.ok.same fun k ek hk => ?_
                have hkb := (World.ownsRow.lt HR9.out.ok k ek).1
                rw [heap_setCell_other _ _ _ _ (show k ≠ w.heap.size by omega), heap_setCell_other _ _ _ _ (show k ≠ w.heap.size by omega), heap_setCell_other _ _ _ _ (show k ≠ w.heap.size by omega)]
              have OV : OwnN (((w9.setCell ⟨w.heap.size, 0, none⟩ (.bool (leafIn ps))).setCell ⟨w.heap.size, 1, none⟩ (.slice a1 k0.toNat cp1)).setCell ⟨w.heap.size, 2, none⟩ (.slice a2 k0.toNat cp2)) (q + 1) (.slice a2 k0.toNat cp2) (valsIn ps) := by
                rw [HVI.out]
                refine HR9.out.ov.same fun k ek hk => ?_
                have hkb := (World.ownsRow.lt HR9.out.ov k ek).1
                rw [heap_setCell_other _ _ _ _ (show k ≠ w.heap.size by omega), heap_setCell_other _ _ _ _ (show k ≠ w.heap.size by omega), heap_setCell_other _ _ _ _ (show k ≠ w.heap.size by omega)]
              refine bodyPost_ret (v := .tuple #[.agg #[.bool (leafIn ps), .slice a1 k0.toNat cp1, .slice a2 k0.toNat cp2], .int .i64 0]) ?_ rfl (Or.inl ⟨HH.out, _, _, q + 1, rfl, OK, OV, by have := HR9.out.qr; omega, ((HR9.out.bw.setCell (p := ⟨w.heap.size, 0, none⟩) (Nat.le_refl _) _).setCell (p := ⟨w.heap.size, 1, none⟩) (Nat.le_refl _) _).setCell (p := ⟨w.heap.size, 2, none⟩) (Nat.le_refl _) _⟩)
              rw [results_cell_tmp rfl]
              go_simp
            · rw [decide_eq_false hfit]
              have HNH := Lib.hid (show ¬ Holds ps from fun h => hfit (HHF.out h))
              have B3 := Lib.hid (((HR9.out.bw.setCell (p := ⟨w.heap.size, 0, none⟩) (Nat.le_refl _) (.bool false)).setCell (p := ⟨w.heap.size, 1, none⟩) (Nat.le_refl _) (.slice none 0 0)).setCell (p := ⟨w.heap.size, 2, none⟩) (Nat.le_refl _) (.slice none 0 0))
              clear hfit
              go_wp2_with fail
              refine bodyPost_ret (v := .tuple #[.agg #[.bool false, .slice none 0 0, .slice none 0 0], .int .i64 30]) ?_ rfl (Or.inr ⟨HNH.out, rfl, B3.out⟩)
              rw [results_cell_tmp rfl]
              go_simp
  · have HNH := Lib.hid (show ¬ Holds ps from fun h => hk12 (head_in h))
    have B3 := Lib.hid (((BB2.out.setCell (p := ⟨w.heap.size, 0, none⟩) (Nat.le_refl _) (.bool false)).setCell (p := ⟨w.heap.size, 1, none⟩) (Nat.le_refl _) (.slice none 0 0)).setCell (p := ⟨w.heap.size, 2, none⟩) (Nat.le_refl _) (.slice none 0 0))
    have hkn : (headIn ps).toNat < 1 ∨ 2 < (headIn ps).toNat := by
      by_cases h0 : (headIn ps).toNat < 1
      · exact .inl h0
      · by_cases h3 : 2 < (headIn ps).toNat
        · exact .inr h3
        · have : (headIn ps).toNat = 1 ∨ (headIn ps).toNat = 2 := by omega
          exact absurd (this.imp (fun h => UInt8.toNat_inj.1 h) (fun h => UInt8.toNat_inj.1 h)) hk12
    clear hk12 yf
    by_cases hka : (headIn ps).toNat < 1
    · clear hkn
      go_wp2_with fail
      refine bodyPost_ret (v := .tuple #[.agg #[.bool false, .slice none 0 0, .slice none 0 0], .int .i64 30]) ?_ rfl (Or.inr ⟨HNH.out, rfl, B3.out⟩)
      rw [results_cell_tmp rfl]
      go_simp
    · have hkb : 2 < (headIn ps).toNat := by omega
      clear hkn
      go_wp2_with fail
      refine bodyPost_ret (v := .tuple #[.agg #[.bool false, .slice none 0 0, .slice none 0 0], .int .i64 30]) ?_ rfl (Or.inr ⟨HNH.out, rfl, B3.out⟩)
      rw [results_cell_tmp rfl]
      go_simp
end Go.Proofs.Ytelaconfjofciaa.Lf
