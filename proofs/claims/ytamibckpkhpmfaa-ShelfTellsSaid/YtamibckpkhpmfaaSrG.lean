/- The walk of ShelfTells. -/
import Derived.Test.YtamibckpkhpmfaaSrF
namespace Go.Proofs.Ytamibckpkhpmfaa.Sf
open Go.RowKit Go.Proofs.Ytamibckpkhpmfaa.Oct
set_option linter.unusedVariables false

/-- The shelf that came in, and its copy, in their variables. -/
structure Two2 (w0 w : World) (pi : Nat) (d : UInt8) (nx : UInt32) (A : Option Addr) (n c : Nat) (A1 : Option Addr) (c1 : Nat) (es : List Ent) : Prop where
  below : Below w0.heap.size w0 w
  s : Box w w0.heap.size d nx A n c
  i : Box w pi d nx A1 n c1
  ss : Sh w A n c es
  si : Sh w A1 n c1 es
theorem Two2.grow {w0 w w' : World} {pi : Nat} {d : UInt8} {nx : UInt32} {A : Option Addr} {n c : Nat} {A1 : Option Addr} {c1 : Nat} {es : List Ent} (h : Two2 w0 w pi d nx A n c A1 c1 es) (k : Below w.heap.size w w') : Two2 w0 w' pi d nx A n c A1 c1 es :=
  ⟨h.below.trans (k.mono h.below.size), h.s.below k h.s.lt, h.i.below k h.i.lt, h.ss.below k, h.si.below k⟩
theorem told_below {w w' : World} {a : Option Addr} {bs : List UInt8} (h : Oct.Told w a bs) (k : Below w.heap.size w w') : Oct.Told w' a bs := by
  rcases h with h | ⟨b, o, rfl, h⟩
  · exact .inl h
  · by_cases h0 : 0 < bs.length
    · exact .inr ⟨b, o, rfl, h.below (World.block_lt_of_cell? w _ (h 0 h0)) k⟩
    · exact .inl (List.eq_nil_of_length_eq_zero (by omega))
theorem RowV.box {w : World} {g n c : Nat} {T : TypeId} {d : UInt8} {nx : UInt32} {A : Option Addr} (h : RowV w g T [.int .u8 (d.toNat : Int), .int .u32 (nx.toNat : Int), .slice A n c]) : Box w g d nx A n c := ⟨h.cellAt (i := 0) rfl, h.cellAt (i := 1) rfl, h.cellAt (i := 2) rfl, h.lt⟩

set_option maxRecDepth 100000 in
set_option maxHeartbeats 4000000 in
theorem tells_walk (HRG : RdGood) (d : UInt8) (nx : UInt32) (A : Option Addr) (n c : Nat) (es : List Ent) (pa : Option Addr) (plen pcap : Nat) (zs : List Int) (w : World) (h : Sh w A n c es) (hnil : A = none → c = 0) (hp : IsRow .u8 w pa plen pcap zs) :
    Calls Try.prog 3 #[.agg #[.int .u8 (d.toNat : Int), .int .u32 (nx.toNat : Int), .slice A n c], .slice pa plen pcap] w fun e w' => e = .returned (.bool true) ∧ Below w.heap.size w w' := by
  obtain ⟨bs, hbs⟩ := came hp
  clear hp
  have HP := Lib.hid hbs
  have hpl := hbs.le
  have hpc := hbs.hcap
  have HD0 := Lib.hid h
  have hcm := h.km
  have hnc := h.kc
  have HNIL := Lib.hid hnil
  have HG := Lib.hid HRG
  unfold maxLen at hcm hpc
  have R1 := Lib.hid (show RowV (w.alloc (.cells #[.int .u8 (d.toNat : Int), .int .u32 (nx.toNat : Int), .slice A n c] 25)) w.heap.size 25 [.int .u8 (d.toNat : Int), .int .u32 (nx.toNat : Int), .slice A n c] from alloc_rowV w _ [.int .u8 (d.toNat : Int), .int .u32 (nx.toNat : Int), .slice A n c])
  have B1 := Lib.hid ((Below.refl w.heap.size w).alloc (Nat.le_refl _) (.cells #[.int .u8 (d.toNat : Int), .int .u32 (nx.toNat : Int), .slice A n c] 25))
  clear h hnil hbs HRG
  by_cases hn : n ≤ 20
  · by_cases hpn : plen ≤ 200
    · go_enter Try.func3, Try.ntmps3
      have s1 : (w.alloc (.cells #[.int .u8 (d.toNat : Int), .int .u32 (nx.toNat : Int), .slice A n c] 25)).heap.size = w.heap.size + 1 := by simp
      have R2 := Lib.hid (show RowV ((w.alloc (.cells #[.int .u8 (d.toNat : Int), .int .u32 (nx.toNat : Int), .slice A n c] 25)).alloc (.cells #[.int .u8 (d.toNat : Int), .int .u32 (nx.toNat : Int), .slice A n c] 25)) (w.heap.size + 1) 25 [.int .u8 (d.toNat : Int), .int .u32 (nx.toNat : Int), .slice A n c] from by have := alloc_rowV (w.alloc (.cells #[.int .u8 (d.toNat : Int), .int .u32 (nx.toNat : Int), .slice A n c] 25)) 25 [.int .u8 (d.toNat : Int), .int .u32 (nx.toNat : Int), .slice A n c]; rwa [s1] at this)
      have b2 := (Below.refl (w.alloc (.cells #[.int .u8 (d.toNat : Int), .int .u32 (nx.toNat : Int), .slice A n c] 25)).heap.size (w.alloc (.cells #[.int .u8 (d.toNat : Int), .int .u32 (nx.toNat : Int), .slice A n c] 25))).alloc (Nat.le_refl _) (.cells #[.int .u8 (d.toNat : Int), .int .u32 (nx.toNat : Int), .slice A n c] 25)
      have R1' := Lib.hid (R1.out.below R1.out.lt b2)
      have B2 := Lib.hid (B1.out.trans (b2.mono B1.out.size))
      have s2 : ((w.alloc (.cells #[.int .u8 (d.toNat : Int), .int .u32 (nx.toNat : Int), .slice A n c] 25)).alloc (.cells #[.int .u8 (d.toNat : Int), .int .u32 (nx.toNat : Int), .slice A n c] 25)).heap.size = w.heap.size + 2 := by simp
      have HS2 := Lib.hid s2
      go_upto_region 4 with (fail)
      generalize (w.alloc (.cells #[.int .u8 (d.toNat : Int), .int .u32 (nx.toNat : Int), .slice A n c] 25)).alloc (.cells #[.int .u8 (d.toNat : Int), .int .u32 (nx.toNat : Int), .slice A n c] 25) = w2 at *
      clear s1 s2 b2 R1 B1
      have b3 := (Below.refl w2.heap.size w2).alloc (Nat.le_refl _) (.cells #[] 40)
      obtain ⟨v', w3, hrun, hown, hbel⟩ := run_append_told (w2.alloc (.cells #[] 40)) 23 w2.heap.size (.slice (some ⟨w2.heap.size, 0, none⟩) 0 0) [] es (own_bare w2) A n c ((HD0.out.below B2.out).below b3) HNIL.out (by simp; omega) b3.size
      rw [List.nil_append] at hown
      obtain ⟨A1, c1, rfl, hsi⟩ := hown.slice
      rw [HD0.out.el] at hrun hown hsi
      have B3 := b3.trans hbel
      have p2 : w.heap.size + 1 < w2.heap.size := R2.out.lt
      have RI := (R2.out.below p2 B3).set 2 (.slice A1 n c1)
      have q0 := (R2.out.below p2 B3).cellAt (i := 2) rfl
      have qf := (R2.out.below p2 B3).free 2
      have T4 := Lib.hid (show Two2 w (w3.setCell ⟨w.heap.size + 1, 2, none⟩ (.slice A1 n c1)) (w.heap.size + 1) d nx A n c A1 c1 es from
        ⟨(B2.out.trans (B3.mono (by have := B2.out.size; omega))).setCell (p := ⟨w.heap.size + 1, 2, none⟩) (by show w.heap.size ≤ w.heap.size + 1; omega) _, ((R1'.out.below R1'.out.lt B3).other (by omega)).box, RI.box,
          HD0.out.below ((B2.out.trans (B3.mono (by have := B2.out.size; omega))).setCell (p := ⟨w.heap.size + 1, 2, none⟩) (by show w.heap.size ≤ w.heap.size + 1; omega) _), hown.beside HD0.out.el p2⟩)
      have PT4 := Lib.hid (told_below HP.out.told T4.out.below)
      have z2 := (R1'.out.below R1'.out.lt b3).cellAt (i := 2) rfl
      have z1 := R1'.out.cellAt (i := 2) rfl
      clear R1' R2 b3 hown hsi B3 RI hbel HS2 B2
      go_wp2_with (at_builtin; refine wpList_append_run rfl (.tmp 26) (.tmp 28) _ rfl _ _ rfl rfl _ _ hrun ?_)
      generalize w3.setCell ⟨w.heap.size + 1, 2, none⟩ (.slice A1 n c1) = w4 at *
      clear hrun q0 qf p2
      refine (again_len pa plen pcap bs HP.out.hlen _ (by unfold maxLen; omega) PT4.out).mono ?_
      rintro e w5 ⟨go, oc, rfl, F5⟩
      have T5 := Lib.hid (T4.out.grow F5.below)
      have PT5 := Lib.hid (told_below PT4.out F5.below)
      have PO5 := Lib.hid (And.intro F5.has F5.hi)
      have hoc := F5.len
      have hoc2 := F5.cap
      rw [HP.out.hlen] at hoc
      clear F5 T4 PT4
      obtain ⟨pi, hpi⟩ : ∃ pi, pi = w.heap.size + 1 := ⟨_, rfl⟩
      rw [← hpi] at T5 ⊢
      clear hpi
      have ON5 := Lib.hid (PO5.out.1.told)
      obtain ⟨cd1, xs1, he1, he2, he3⟩ := enc_kind d nx es
      obtain ⟨cd2, dd, dn, de, hd1, hd2⟩ := dec_kind bs
      have HE := Lib.hid (And.intro he1 he2)
      have HDK := Lib.hid (And.intro hd1 hd2)
      have hcd1 : (cd1 != cd1) = false := by simp
      have hcd2 : (cd2 != cd2) = false := by simp
      clear he1 he2 he3 hd1 hd2 PO5
      obtain ⟨i0, i1, i2, ilt⟩ := T5.out.i
      obtain ⟨b0, b1, b2, blt⟩ := T5.out.s
      go_wp2_with fail
      refine (encode_out d nx T5.out.si HE.out.1 HE.out.2).mono ?_
      rintro e w6 ⟨A3, l3, p3, rfl, hx3, t3, k6⟩
      have T6 := Lib.hid (T5.out.grow k6)
      have PT6 := Lib.hid (told_below PT5.out k6)
      have ON6 := Lib.hid (told_below ON5.out k6)
      have HX3 := Lib.hid hx3
      have HT3 := Lib.hid t3
      clear i0 i1 i2 ilt b0 b1 b2 blt t3 hx3 T5 ON5 PT5 k6
      obtain ⟨b0, b1, b2, blt⟩ := T6.out.s
      go_wp2_with fail
      refine (rencode_out d nx T6.out.ss HE.out.1 HE.out.2).mono ?_
      rintro e w7 ⟨A4, l4, p4, rfl, hx4, t4, k7⟩
      have T7 := Lib.hid (T6.out.grow k7)
      have PT7 := Lib.hid (told_below PT6.out k7)
      have ON7 := Lib.hid (told_below ON6.out k7)
      have HX4 := Lib.hid hx4
      have HT4 := Lib.hid (And.intro (told_below HT3.out k7) t4)
      clear b0 b1 b2 blt t4 hx4 T6 ON6 PT6 k7 HT3
      go_wp2_with fail
      refine (decode_out (some ⟨go, 0, none⟩) plen oc bs HP.out.hlen (by omega) (by unfold maxLen at hoc2 ⊢; omega) _ ON7.out HDK.out.1 HDK.out.2).mono ?_
      rintro e w8 ⟨C1, m1, f1, rfl, n8, k8'⟩
      have b8 := (Below.refl w8.heap.size w8).alloc (Nat.le_refl _) (.cells #[.int .u8 (dd.toNat : Int), .int .u32 (dn.toNat : Int), .slice C1 m1 f1] 25)
      have k8 := k8'.trans (b8.mono k8'.size)
      have V8 := Lib.hid (show Box (w8.alloc (.cells #[.int .u8 (dd.toNat : Int), .int .u32 (dn.toNat : Int), .slice C1 m1 f1] 25)) w8.heap.size dd dn C1 m1 f1 from (alloc_rowV w8 25 [.int .u8 (dd.toNat : Int), .int .u32 (dn.toNat : Int), .slice C1 m1 f1]).box)
      have N8 := Lib.hid (n8.below b8)
      have T8 := Lib.hid (T7.out.grow k8)
      have PT8 := Lib.hid (told_below PT7.out k8)
      have ON8 := Lib.hid (told_below ON7.out k8)
      have HT5 := Lib.hid (And.intro (told_below HT4.out.1 k8) (told_below HT4.out.2 k8))
      clear k8' n8 k8 b8 T7 PT7 ON7 HT4
      go_upto_region 9 with (fail)
      generalize w8.alloc (.cells #[.int .u8 (dd.toNat : Int), .int .u32 (dn.toNat : Int), .slice C1 m1 f1] 25) = w9 at *
      generalize w8.heap.size = pc at *
      go_wp2_with fail
      refine (rdecode_out HG.out pa plen pcap bs HP.out.hlen hpl (by unfold maxLen; omega) _ PT8.out HDK.out.1 HDK.out.2).mono ?_
      rintro e w10 ⟨C2, m2, f2, rfl, n10, k10'⟩
      have b10 := (Below.refl w10.heap.size w10).alloc (Nat.le_refl _) (.cells #[.int .u8 (dd.toNat : Int), .int .u32 (dn.toNat : Int), .slice C2 m2 f2] 25)
      have k10 := k10'.trans (b10.mono k10'.size)
      have V10 := Lib.hid (show Box (w10.alloc (.cells #[.int .u8 (dd.toNat : Int), .int .u32 (dn.toNat : Int), .slice C2 m2 f2] 25)) w10.heap.size dd dn C2 m2 f2 from (alloc_rowV w10 25 [.int .u8 (dd.toNat : Int), .int .u32 (dn.toNat : Int), .slice C2 m2 f2]).box)
      have N10 := Lib.hid (n10.below b10)
      have V9 := Lib.hid (V8.out.below k10 V8.out.lt)
      have N9 := Lib.hid (N8.out.below k10)
      have T10 := Lib.hid (T8.out.grow k10)
      have PT10 := Lib.hid (told_below PT8.out k10)
      have ON10 := Lib.hid (told_below ON8.out k10)
      have HT7 := Lib.hid (And.intro (told_below HT5.out.1 k10) (told_below HT5.out.2 k10))
      clear k10' n10 k10 b10 T8 PT8 ON8 HT5 V8 N8
      go_upto_region 10 with (fail)
      generalize w10.alloc (.cells #[.int .u8 (dd.toNat : Int), .int .u32 (dn.toNat : Int), .slice C2 m2 f2] 25) = w11 at *
      generalize w10.heap.size = pd at *
      have KS := Lib.hid (show ∀ w', Below w11.heap.size w11 w' → (w'.cell? ⟨pc, 0, none⟩ = some (.int .u8 (dd.toNat : Int)) ∧ w'.cell? ⟨pc, 1, none⟩ = some (.int .u32 (dn.toNat : Int)) ∧ w'.cell? ⟨pc, 2, none⟩ = some (.slice C1 m1 f1) ∧ w'.cell? ⟨pd, 0, none⟩ = some (.int .u8 (dd.toNat : Int)) ∧ w'.cell? ⟨pd, 1, none⟩ = some (.int .u32 (dn.toNat : Int)) ∧ w'.cell? ⟨pd, 2, none⟩ = some (.slice C2 m2 f2) ∧ w'.cell? ⟨pi, 0, none⟩ = some (.int .u8 (d.toNat : Int)) ∧ w'.cell? ⟨pi, 1, none⟩ = some (.int .u32 (nx.toNat : Int)) ∧ w'.cell? ⟨pi, 2, none⟩ = some (.slice A1 n c1) ∧ w'.cell? ⟨w.heap.size, 0, none⟩ = some (.int .u8 (d.toNat : Int)) ∧ w'.cell? ⟨w.heap.size, 1, none⟩ = some (.int .u32 (nx.toNat : Int)) ∧ w'.cell? ⟨w.heap.size, 2, none⟩ = some (.slice A n c)) from fun w' k => let x := T10.out.grow k; let y := V9.out.below k V9.out.lt; let z := V10.out.below k V10.out.lt; ⟨y.c0, y.c1, y.c2, z.c0, z.c1, z.c2, x.i.c0, x.i.c1, x.i.c2, x.s.c0, x.s.c1, x.s.c2⟩)
      obtain ⟨u0, u1, u2, v0, v1, v2, i0, i1, i2, b0, b1, b2⟩ := KS.out _ (Below.refl _ _)
      have SD := Still.drew w11
      have HT8 := Lib.hid (And.intro (told_below HT7.out.1 (SD.below _)) (told_below HT7.out.2 (SD.below _)))
      have N9' := Lib.hid (N9.out.below (SD.below _))
      have N10' := Lib.hid (N10.out.below (SD.below _))
      have T10' := Lib.hid (T10.out.grow (SD.below _))
      obtain ⟨fv, hfv⟩ : ∃ fv, decide (Fit d nx es) = fv := ⟨_, rfl⟩
      have HFV := Lib.hid hfv
      have hff : (fv != fv) = false := by simp
      have hsm : decide (Same dd dd dn dn de de) = true := decide_eq_true (And.intro rfl (And.intro rfl rfl))
      have hsm2 : decide (Same d d nx nx es es) = true := decide_eq_true (And.intro rfl (And.intro rfl rfl))
      clear SD hfv
      go_wp2_with fail
      go_region_held3 (fun w' => w'.cell? ⟨pc, 0, none⟩ = some (.int .u8 (dd.toNat : Int)) ∧ w'.cell? ⟨pc, 1, none⟩ = some (.int .u32 (dn.toNat : Int)) ∧ w'.cell? ⟨pc, 2, none⟩ = some (.slice C1 m1 f1) ∧ w'.cell? ⟨pd, 0, none⟩ = some (.int .u8 (dd.toNat : Int)) ∧ w'.cell? ⟨pd, 1, none⟩ = some (.int .u32 (dn.toNat : Int)) ∧ w'.cell? ⟨pd, 2, none⟩ = some (.slice C2 m2 f2) ∧ w'.cell? ⟨pi, 0, none⟩ = some (.int .u8 (d.toNat : Int)) ∧ w'.cell? ⟨pi, 1, none⟩ = some (.int .u32 (nx.toNat : Int)) ∧ w'.cell? ⟨pi, 2, none⟩ = some (.slice A1 n c1) ∧ w'.cell? ⟨w.heap.size, 0, none⟩ = some (.int .u8 (d.toNat : Int)) ∧ w'.cell? ⟨w.heap.size, 1, none⟩ = some (.int .u32 (nx.toNat : Int)) ∧ w'.cell? ⟨w.heap.size, 2, none⟩ = some (.slice A n c)) ((refine KS.out _ ?_; (repeat' (first | with_reducible exact Below.refl _ _ | with_reducible exact HBQ.out | with_reducible exact HBR.out | with_reducible exact HBT.out | with_reducible refine Below.drew ?_)))) (first | (go_at_call 14; with_reducible refine (equal_yes _ _ l3 l4 p3 p4 xs1 xs1 rfl HX3.out HX4.out _ HT8.out.1 HT8.out.2).mono ?_; rintro e wq' ⟨rfl, rfl⟩) | (go_at_call 15; with_reducible refine (eqshelves_any dd dd dn dn N9'.out N10'.out).mono ?_; rintro e wq ⟨rfl, Bq⟩; rw [hsm]; have HBQ := Lib.hid (show Below w11.heap.size w11 wq from ((Still.drew w11).below _).trans (Bq.mono (Nat.le_refl _))); have TQ := Lib.hid (T10'.out.grow Bq); clear Bq) | (go_at_call 16; with_reducible refine (right_any d nx TQ.out.si).mono ?_; rintro e wr ⟨rfl, Br⟩; rw [HFV.out]; have HBR := Lib.hid (HBQ.out.trans (Br.mono HBQ.out.size)); have TR := Lib.hid (TQ.out.grow Br); clear Br) | (go_at_call 17; with_reducible refine (rright_any d nx TR.out.ss).mono ?_; rintro e wt ⟨rfl, Bt⟩; rw [HFV.out]; have HBT := Lib.hid (HBR.out.trans (Bt.mono HBR.out.size)); have TT := Lib.hid (TR.out.grow Bt); clear Bt))
      all_goals
        have ON11 := Lib.hid (told_below ON10.out HBT.out)
        have PT11 := Lib.hid (told_below PT10.out HBT.out)
        clear i0 i1 i2 b0 b1 b2 u0 u1 u2 v0 v1 v2 KS HT8 N9' N10' T10' HBQ HBR TQ TR
        obtain ⟨i0, i1, i2, ilt⟩ := TT.out.i
        obtain ⟨b0, b1, b2, blt⟩ := TT.out.s
        go_wp2_with fail
        refine (eqshelves_any d d nx nx TT.out.si TT.out.ss).mono ?_
        rintro e x1 ⟨rfl, c1'⟩
        rw [hsm2]
        have ON12 := Lib.hid (told_below ON11.out c1')
        have PT12 := Lib.hid (told_below PT11.out c1')
        have Y12 := Lib.hid (TT.out.grow c1').below
        clear c1' i0 i1 i2 ilt b0 b1 b2 blt
        go_wp2_with fail
        refine (equal_yes _ _ plen plen oc pcap bs bs rfl HP.out.hlen HP.out.hlen _ ON12.out PT12.out).mono ?_
        rintro e x1' ⟨rfl, rfl⟩
        go_wp2_with fail
        refine (awake_any _).mono ?_
        rintro e x2 ⟨rfl, c2'⟩
        go_wp2_with fail
        go_ret
        exact ⟨rfl, Y12.out.trans (c2'.mono Y12.out.size)⟩
    · go_enter Try.func3, Try.ntmps3
      go_wp2_with fail
      refine (awake_any _).mono ?_
      rintro e w2 ⟨rfl, B2⟩
      go_wp2_with fail
      go_ret
      exact ⟨rfl, B1.out.trans (B2.mono B1.out.size)⟩
  · go_enter Try.func3, Try.ntmps3
    go_wp2_with fail
    refine (awake_any _).mono ?_
    rintro e w2 ⟨rfl, B2⟩
    go_wp2_with fail
    go_ret
    exact ⟨rfl, B1.out.trans (B2.mono B1.out.size)⟩
end Go.Proofs.Ytamibckpkhpmfaa.Sf
