/- The walk of IndexRow. -/
import Derived.Test.YtpkfcbbnfhjjlaaIxT
namespace Go.Proofs.Ytpkfcbbnfhjjlaa.Ix
open Go.RowKit Go.Proofs.Ytpkfcbbnfhjjlaa.Oct Go.Proofs.Ytpkfcbbnfhjjlaa.Sf
set_option linter.unusedVariables false

theorem pages_nat (n : Nat) : ∃ P : Nat, pagesOf (n : Int) = (P : Int) ∧ (∀ i, i < n → i / 61 < P) ∧ (∀ p, p < P → 61 * p < n) ∧ n ≤ 61 * P ∧ P ≤ n := by
  unfold pagesOf
  by_cases h : (n : Int) < 1
  · exact ⟨0, by rw [if_pos h]; rfl, fun i hi => by omega, fun p hp => by omega, by omega, by omega⟩
  · exact ⟨(n - 1) / 61 + 1, by rw [if_neg h]; omega, fun i hi => by omega, fun p hp => by omega, by omega, by omega⟩

set_option maxRecDepth 100000 in
set_option maxHeartbeats 2000000 in
theorem row_walk4 (A : Option Addr) (n c : Nat) (l : List UInt16) (w : World) (h : Wd w A n c l) :
    Calls Try.prog 7 #[.slice A n c, .bool false] w fun e w' => e = .returned (.bool true) ∧ Below w.heap.size w w' := by
  have HD := Lib.hid h
  have hcm := h.km
  have hnc := h.kc
  unfold maxLen at hcm
  have HL := Lib.hid h.el
  clear h
  by_cases hn : n ≤ 400
  · obtain ⟨P, hP, hP1, hP2, hP3, hP4⟩ := pages_nat n
    have HP1 := Lib.hid hP1
    have HP2 := Lib.hid hP2
    have HPG := Lib.hid (pages_any (n : Int) (by omega) (by omega) w)
    rw [hP] at HPG
    have hmk := run_make_rows w P (by omega)
    have R1 := Rows.start w P l
    have b1 := (Below.refl w.heap.size w).alloc (Nat.le_refl _) (.cells (List.replicate P (Value.slice none 0 0)).toArray 22)
    generalize w.alloc (.cells (List.replicate P (Value.slice none 0 0)).toArray 22) = w1 at *
    obtain ⟨R, hR⟩ : ∃ R, R = w.heap.size := ⟨_, rfl⟩
    rw [← hR] at hmk R1
    have HR1 := Lib.hid R1
    have HB1 := Lib.hid b1
    have HR := Lib.hid hR
    clear hP hP1 hP2 R1 b1 hR
    go_enter Try.func7, Try.ntmps7
    go_wp2_with fail
    refine HPG.out.mono ?_
    rintro e w' ⟨rfl, rfl⟩
    go_wp2_with fail
    go_loopw [29] (fun i wr => ∃ j : Nat, j ≤ n ∧ i = .int .i64 (j : Int) ∧ Hid (∃ vs, Rows wr R P j l vs) ∧ Hid (Below w.heap.size w wr)) (fun i _ => n - (intOf i).toNat)
    case atStart => exact ⟨0, Nat.zero_le _, rfl, Lib.hid ⟨_, HR1.out⟩, HB1⟩
    case round =>
      obtain ⟨j, hj, rfl, HRS, HBW⟩ := hrel
      clear HR1 HB1 HPG hmk
      by_cases hlt : j < n
      · obtain ⟨vs, RS⟩ := HRS.out
        have hjl : j < l.length := by rw [HL.out]; exact hlt
        obtain ⟨b, o, hA, hb, c1⟩ := (HD.out.below HBW.out).at hlt
        have hq := HP1.out j hlt
        have hqv : j / 61 < vs.length := by rw [RS.len]; exact hq
        obtain ⟨v, hv⟩ : ∃ v, vs[j / 61]? = some v := ⟨_, List.getElem?_eq_getElem hqv⟩
        have hown := RS.own _ _ hv
        obtain ⟨A1, cp, hvf, _, _⟩ := OwnW.told hown
        have hcl := chunk_len l j (by omega)
        rw [hcl] at hvf
        have g1 := RS.row.cellAt hv
        rw [hvf] at g1
        -- the append
        have T2 := alloc_rowV wr 43 [.int .u16 ((l[j]'hjl).toNat : Int)]
        change RowV (wr.alloc (.cells #[.int .u16 ((l[j]'hjl).toNat : Int)] 43)) _ _ _ at T2
        have b2 := (Below.refl wr.heap.size wr).alloc (Nat.le_refl _) (.cells #[.int .u16 ((l[j]'hjl).toNat : Int)] 43)
        have hRl : R < wr.heap.size := RS.row.lt
        obtain ⟨v', w2, hrun, ho', hg', hw'⟩ := run_append_word (wr.alloc (.cells #[.int .u16 ((l[j]'hjl).toNat : Int)] 43)) 22 (R + 1) v (chunk l j (j / 61)) (hown.below b2 (Nat.le_refl _)) (by have := chunk_le l j (j / 61); omega) wr.heap.size (l[j]'hjl) (T2.cellAt rfl) (Nat.le_trans hRl b2.size)
        have HPU := Lib.hid (RS.push (tmp := .cells #[.int .u16 ((l[j]'hjl).toNat : Int)] 43) hjl hv ho' ⟨hg'.os, hg'.tape, hg'.output, hg'.size, hg'.block⟩ hw')
        have g1a : ∀ o, (wr.alloc o).cell? ⟨R, j / 61, none⟩ = wr.cell? ⟨R, j / 61, none⟩ := fun o => World.cell?_alloc_lt wr o ⟨R, j / 61, none⟩ hRl
        have hvR : v.ownBlock ≠ some R := fun e => by have := (World.ownsRow.lt hown R e).1; omega
        have g2 : w2.cell? ⟨R, j / 61, none⟩ = some (.slice A1 (j % 61) cp) := by
          have e1 : w2.heap[R]? = wr.heap[R]? := (hg'.block R (Nat.lt_of_lt_of_le hRl b2.size) (fun e => hvR e.symm)).trans (b2.block R hRl)
          exact (World.cell?_of_block (a := ⟨R, j / 61, none⟩) e1).trans g1
        have f2 : w2.frozen? ⟨R, j / 61, none⟩ = false := by
          have e1 : w2.heap[R]? = wr.heap[R]? := (hg'.block R (Nat.lt_of_lt_of_le hRl b2.size) (fun e => hvR e.symm)).trans (b2.block R hRl)
          exact (World.frozen?_of_block (a := ⟨R, j / 61, none⟩) e1).trans (RS.row.free _)
        have b3 : Below (R + 1) (wr.alloc (.cells #[.int .u16 ((l[j]'hjl).toNat : Int)] 43)) w2 := ⟨hg'.os, hg'.tape, hg'.output, hg'.size, fun k hk => hg'.block k (Nat.lt_of_lt_of_le (show k < wr.heap.size by omega) b2.size) (fun e => by have := (World.ownsRow.lt hown k e.symm).1; omega)⟩
        have HB3 := Lib.hid ((HBW.out.trans (b2.mono HBW.out.size)).trans (b3.mono (by rw [HR.out]; omega)))
        obtain ⟨A3, c3, hvf3, _, _⟩ := OwnW.told ho'
        have hlen3 : (chunk l j (j / 61) ++ [l[j]'hjl]).length = j % 61 + 1 := by rw [List.length_append, hcl]; rfl
        rw [hlen3] at hvf3
        rw [hvf] at hrun
        have HPL := Lib.hid (place_pos j (by omega) wr)
        subst hvf3
        have hx := u16_lt (l[j]'hjl)
        generalize l[j]'hjl = x at *
        have g1b := g1a (.cells #[.int .u16 (x.toNat : Int)] 43)
        rw [g1] at g1b
        have HPU2 := HPU
        clear g1a HPU T2 ho' hg' hw' b2 b3 hvR hown hvf HRS RS HBW
        have hj0 : (0 : Int) ≤ (j : Int) := by omega
        have hjn : (j : Int) < (n : Int) := by omega
        obtain ⟨q, hqq⟩ : ∃ q, q = j / 61 := ⟨_, rfl⟩
        obtain ⟨r, hrr⟩ : ∃ r, r = j % 61 := ⟨_, rfl⟩
        rw [← hqq] at g1b g1 g2 f2 hq HPU2 HPL hqv
        rw [← hrr] at g1 g2 HPU2 HPL hrun
        have hq0 : (0 : Int) ≤ (q : Int) := by omega
        have hqP : (q : Int) < (P : Int) := by omega
        have hqP2 : ¬ (P : Int) ≤ (q : Int) := by omega
        clear hqq hrr hv hqv hcl hlen3
        subst hA
        go_wp2_with fail
        refine HPL.out.mono ?_
        rintro e w' ⟨rfl, rfl⟩
        go_wp2_with (at_builtin; refine wpList_append_run rfl (.tmp 61) (.tmp 63) _ rfl _ _ rfl rfl _ w2 hrun ?_)
        go_roundw
        case rel => exact ⟨j + 1, by omega, by go_num, Lib.hid ⟨_, HPU2.out⟩, Lib.hid (HB3.out.setCell (p := ⟨R, q, none⟩) (by rw [HR.out]; exact Nat.le_refl _) _)⟩
        case measure => simp [intOf]; omega
      · obtain rfl : j = n := by omega
        obtain ⟨vs, RS⟩ := HRS.out
        have HRS2 := Lib.hid (show Rows wr R P l.length l vs by rw [HL.out]; exact RS)
        clear HRS RS
        obtain ⟨wB, hwB⟩ : ∃ x, x = wr := ⟨_, rfl⟩
        subst hwB
        go_wp2_with fail
        go_loopw [11, 69] (fun v i wv => ∃ p : Nat, p ≤ P ∧ i = .int .i64 (p : Int) ∧ Hid (OwnW wv wB.heap.size v (l.take (61 * p))) ∧ Hid (Below wB.heap.size wB wv)) (fun _ i _ => P - (intOf i).toNat)
        case atStart => exact ⟨0, Nat.zero_le _, rfl, Lib.hid (by rw [Nat.mul_zero, List.take_zero]; exact World.ownsRow_nil wB wB.heap.size 43 1), Lib.hid (Below.refl _ _)⟩
        case round =>
          obtain ⟨p, hp, rfl, HO, HBV⟩ := hrel
          by_cases hpt : p < P
          · obtain ⟨v, hv⟩ : ∃ v, vs[p]? = some v := ⟨_, List.getElem?_eq_getElem (by rw [HRS2.out.len]; exact hpt)⟩
            have hown := HRS2.out.own p v hv
            obtain ⟨A1, cp, hvf, hW1, _⟩ := OwnW.told hown
            have g0 := HRS2.out.row.cellAt hv
            rw [hvf] at g0
            have g1 := (HBV.out.cell (p := ⟨R, p, none⟩) HRS2.out.row.lt).trans g0
            have HW1 := Lib.hid (hW1.below HBV.out)
            have hcl := chunk_le l l.length p
            have hcp := chunk_pos l p (by rw [HL.out]; exact HP2.out p hpt)
            have HFT := Lib.hid (show Fit 4 (chunk l l.length p) from ⟨by decide, hcl⟩)
            have HTK := Lib.hid (take_chunk l p)
            have hlt2 : (l.take (61 * p)).length ≤ 400 := by simp; have := HL.out; omega
            generalize hch : chunk l l.length p = ch at *
            have hm0 : ¬ ((ch.length : Int) = 0) := by omega
            have hmb : ((ch.length : Int) == 0) = false := by rw [beq_eq_false_iff_ne]; exact hm0
            have hp0 : (0 : Int) ≤ (p : Int) := by omega
            have hpP : (p : Int) < (P : Int) := by omega
            have hlen := Lib.hid hlt2
            have hcl2 := Lib.hid hcl
            clear hown hvf hW1 hv g0 hch hlt2
            go_wp2_with fail
            refine (encode_yes 4 HW1.out HFT.out).mono ?_
            rintro e w3 ⟨g3, rfl, F3⟩
            have HP3 := Lib.hid (show Has w3 g3 0 (idxPage 4 ch) from F3.has)
            have HO3 := Lib.hid (HO.out.below F3.below (Nat.le_refl _))
            have HB3 := Lib.hid (HBV.out.trans (F3.below.mono HBV.out.size))
            clear F3 HO HBV HW1
            go_wp2_with fail
            refine (decode_page 4 g3 0 128 ch _ HFT.out HP3.out (by decide) (by decide)).mono ?_
            rintro e w4 ⟨v4, rfl, O4, B4⟩
            obtain ⟨A4, c4, hv4, hW4, hn4⟩ := OwnW.told O4
            subst hv4
            have hO4 := HO3.out.below B4 (Nat.le_refl _)
            have hB4 := HB3.out.trans (B4.mono HB3.out.size)
            obtain ⟨v5, w5, hr5, O5, B5⟩ := run_append_words w4 22 wB.heap.size _ (l.take (61 * p)) ch hO4 A4 ch.length c4 rfl hW4.ws hn4 (by have := hlen.out; have := hcl2.out; omega) hB4.size
            rw [HTK.out] at O5
            have HO5 := Lib.hid O5
            have HB5 := Lib.hid (hB4.trans B5)
            clear O4 B4 hW4 hO4 hB4 O5 B5 HO3 HB3 HP3
            go_wp2_with (at_builtin; refine wpList_append_run rfl (.tmp 96) (.tmp 97) _ rfl _ _ rfl rfl v5 w5 hr5 ?_)
            go_roundw
            case rel => exact ⟨p + 1, by omega, by go_num, HO5, HB5⟩
            case measure => simp [intOf]; omega
          · obtain rfl : p = P := by omega
            have hO := HO.out
            rw [List.take_of_length_le (by rw [HL.out]; exact hP3)] at hO
            obtain ⟨A6, c6, hv6, hW6, _⟩ := OwnW.told hO
            subst hv6
            have HB6 := Lib.hid (HBW.out.trans (HBV.out.mono HBW.out.size))
            have HQ := Lib.hid (eqwords_any hW6 (HD.out.below HB6.out))
            clear hO hW6 HO HBV
            go_wp2_with fail
            with_reducible refine HQ.out.mono ?_
            rintro e w7 ⟨rfl, S7⟩
            rw [show (l == l) = true from by simp]
            have HB7 := Lib.hid (HB6.out.trans (S7.below _))
            clear S7
            go_wp2_with fail
            refine (awake_any _).mono ?_
            rintro e u2 ⟨rfl, B11⟩
            have HB11 := Lib.hid (HB7.out.trans (B11.mono HB7.out.size))
            clear B11
            go_wp2_with fail
            go_ret
            exact ⟨rfl, HB11.out⟩
  · go_enter Try.func7, Try.ntmps7
    go_wp2_with fail
    refine (awake_any _).mono ?_
    rintro e u2 ⟨rfl, B11⟩
    go_wp2_with fail
    go_ret
    exact ⟨rfl, B11⟩

set_option maxRecDepth 100000 in
set_option maxHeartbeats 2000000 in
theorem row_walk5 (A : Option Addr) (n c : Nat) (l : List UInt16) (w : World) (h : Wd w A n c l) :
    Calls Try.prog 7 #[.slice A n c, .bool true] w fun e w' => e = .returned (.bool true) ∧ Below w.heap.size w w' := by
  have HD := Lib.hid h
  have hcm := h.km
  have hnc := h.kc
  unfold maxLen at hcm
  have HL := Lib.hid h.el
  clear h
  by_cases hn : n ≤ 400
  · obtain ⟨P, hP, hP1, hP2, hP3, hP4⟩ := pages_nat n
    have HP1 := Lib.hid hP1
    have HP2 := Lib.hid hP2
    have HPG := Lib.hid (pages_any (n : Int) (by omega) (by omega) w)
    rw [hP] at HPG
    have hmk := run_make_rows w P (by omega)
    have R1 := Rows.start w P l
    have b1 := (Below.refl w.heap.size w).alloc (Nat.le_refl _) (.cells (List.replicate P (Value.slice none 0 0)).toArray 22)
    generalize w.alloc (.cells (List.replicate P (Value.slice none 0 0)).toArray 22) = w1 at *
    obtain ⟨R, hR⟩ : ∃ R, R = w.heap.size := ⟨_, rfl⟩
    rw [← hR] at hmk R1
    have HR1 := Lib.hid R1
    have HB1 := Lib.hid b1
    have HR := Lib.hid hR
    clear hP hP1 hP2 R1 b1 hR
    go_enter Try.func7, Try.ntmps7
    go_wp2_with fail
    refine HPG.out.mono ?_
    rintro e w' ⟨rfl, rfl⟩
    go_wp2_with fail
    go_loopw [29] (fun i wr => ∃ j : Nat, j ≤ n ∧ i = .int .i64 (j : Int) ∧ Hid (∃ vs, Rows wr R P j l vs) ∧ Hid (Below w.heap.size w wr)) (fun i _ => n - (intOf i).toNat)
    case atStart => exact ⟨0, Nat.zero_le _, rfl, Lib.hid ⟨_, HR1.out⟩, HB1⟩
    case round =>
      obtain ⟨j, hj, rfl, HRS, HBW⟩ := hrel
      clear HR1 HB1 HPG hmk
      by_cases hlt : j < n
      · obtain ⟨vs, RS⟩ := HRS.out
        have hjl : j < l.length := by rw [HL.out]; exact hlt
        obtain ⟨b, o, hA, hb, c1⟩ := (HD.out.below HBW.out).at hlt
        have hq := HP1.out j hlt
        have hqv : j / 61 < vs.length := by rw [RS.len]; exact hq
        obtain ⟨v, hv⟩ : ∃ v, vs[j / 61]? = some v := ⟨_, List.getElem?_eq_getElem hqv⟩
        have hown := RS.own _ _ hv
        obtain ⟨A1, cp, hvf, _, _⟩ := OwnW.told hown
        have hcl := chunk_len l j (by omega)
        rw [hcl] at hvf
        have g1 := RS.row.cellAt hv
        rw [hvf] at g1
        -- the append
        have T2 := alloc_rowV wr 43 [.int .u16 ((l[j]'hjl).toNat : Int)]
        change RowV (wr.alloc (.cells #[.int .u16 ((l[j]'hjl).toNat : Int)] 43)) _ _ _ at T2
        have b2 := (Below.refl wr.heap.size wr).alloc (Nat.le_refl _) (.cells #[.int .u16 ((l[j]'hjl).toNat : Int)] 43)
        have hRl : R < wr.heap.size := RS.row.lt
        obtain ⟨v', w2, hrun, ho', hg', hw'⟩ := run_append_word (wr.alloc (.cells #[.int .u16 ((l[j]'hjl).toNat : Int)] 43)) 22 (R + 1) v (chunk l j (j / 61)) (hown.below b2 (Nat.le_refl _)) (by have := chunk_le l j (j / 61); omega) wr.heap.size (l[j]'hjl) (T2.cellAt rfl) (Nat.le_trans hRl b2.size)
        have HPU := Lib.hid (RS.push (tmp := .cells #[.int .u16 ((l[j]'hjl).toNat : Int)] 43) hjl hv ho' ⟨hg'.os, hg'.tape, hg'.output, hg'.size, hg'.block⟩ hw')
        have g1a : ∀ o, (wr.alloc o).cell? ⟨R, j / 61, none⟩ = wr.cell? ⟨R, j / 61, none⟩ := fun o => World.cell?_alloc_lt wr o ⟨R, j / 61, none⟩ hRl
        have hvR : v.ownBlock ≠ some R := fun e => by have := (World.ownsRow.lt hown R e).1; omega
        have g2 : w2.cell? ⟨R, j / 61, none⟩ = some (.slice A1 (j % 61) cp) := by
          have e1 : w2.heap[R]? = wr.heap[R]? := (hg'.block R (Nat.lt_of_lt_of_le hRl b2.size) (fun e => hvR e.symm)).trans (b2.block R hRl)
          exact (World.cell?_of_block (a := ⟨R, j / 61, none⟩) e1).trans g1
        have f2 : w2.frozen? ⟨R, j / 61, none⟩ = false := by
          have e1 : w2.heap[R]? = wr.heap[R]? := (hg'.block R (Nat.lt_of_lt_of_le hRl b2.size) (fun e => hvR e.symm)).trans (b2.block R hRl)
          exact (World.frozen?_of_block (a := ⟨R, j / 61, none⟩) e1).trans (RS.row.free _)
        have b3 : Below (R + 1) (wr.alloc (.cells #[.int .u16 ((l[j]'hjl).toNat : Int)] 43)) w2 := ⟨hg'.os, hg'.tape, hg'.output, hg'.size, fun k hk => hg'.block k (Nat.lt_of_lt_of_le (show k < wr.heap.size by omega) b2.size) (fun e => by have := (World.ownsRow.lt hown k e.symm).1; omega)⟩
        have HB3 := Lib.hid ((HBW.out.trans (b2.mono HBW.out.size)).trans (b3.mono (by rw [HR.out]; omega)))
        obtain ⟨A3, c3, hvf3, _, _⟩ := OwnW.told ho'
        have hlen3 : (chunk l j (j / 61) ++ [l[j]'hjl]).length = j % 61 + 1 := by rw [List.length_append, hcl]; rfl
        rw [hlen3] at hvf3
        rw [hvf] at hrun
        have HPL := Lib.hid (place_pos j (by omega) wr)
        subst hvf3
        have hx := u16_lt (l[j]'hjl)
        generalize l[j]'hjl = x at *
        have g1b := g1a (.cells #[.int .u16 (x.toNat : Int)] 43)
        rw [g1] at g1b
        have HPU2 := HPU
        clear g1a HPU T2 ho' hg' hw' b2 b3 hvR hown hvf HRS RS HBW
        have hj0 : (0 : Int) ≤ (j : Int) := by omega
        have hjn : (j : Int) < (n : Int) := by omega
        obtain ⟨q, hqq⟩ : ∃ q, q = j / 61 := ⟨_, rfl⟩
        obtain ⟨r, hrr⟩ : ∃ r, r = j % 61 := ⟨_, rfl⟩
        rw [← hqq] at g1b g1 g2 f2 hq HPU2 HPL hqv
        rw [← hrr] at g1 g2 HPU2 HPL hrun
        have hq0 : (0 : Int) ≤ (q : Int) := by omega
        have hqP : (q : Int) < (P : Int) := by omega
        have hqP2 : ¬ (P : Int) ≤ (q : Int) := by omega
        clear hqq hrr hv hqv hcl hlen3
        subst hA
        go_wp2_with fail
        refine HPL.out.mono ?_
        rintro e w' ⟨rfl, rfl⟩
        go_wp2_with (at_builtin; refine wpList_append_run rfl (.tmp 61) (.tmp 63) _ rfl _ _ rfl rfl _ w2 hrun ?_)
        go_roundw
        case rel => exact ⟨j + 1, by omega, by go_num, Lib.hid ⟨_, HPU2.out⟩, Lib.hid (HB3.out.setCell (p := ⟨R, q, none⟩) (by rw [HR.out]; exact Nat.le_refl _) _)⟩
        case measure => simp [intOf]; omega
      · obtain rfl : j = n := by omega
        obtain ⟨vs, RS⟩ := HRS.out
        have HRS2 := Lib.hid (show Rows wr R P l.length l vs by rw [HL.out]; exact RS)
        clear HRS RS
        obtain ⟨wB, hwB⟩ : ∃ x, x = wr := ⟨_, rfl⟩
        subst hwB
        go_wp2_with fail
        go_loopw [11, 69] (fun v i wv => ∃ p : Nat, p ≤ P ∧ i = .int .i64 (p : Int) ∧ Hid (OwnW wv wB.heap.size v (l.take (61 * p))) ∧ Hid (Below wB.heap.size wB wv)) (fun _ i _ => P - (intOf i).toNat)
        case atStart => exact ⟨0, Nat.zero_le _, rfl, Lib.hid (by rw [Nat.mul_zero, List.take_zero]; exact World.ownsRow_nil wB wB.heap.size 43 1), Lib.hid (Below.refl _ _)⟩
        case round =>
          obtain ⟨p, hp, rfl, HO, HBV⟩ := hrel
          by_cases hpt : p < P
          · obtain ⟨v, hv⟩ : ∃ v, vs[p]? = some v := ⟨_, List.getElem?_eq_getElem (by rw [HRS2.out.len]; exact hpt)⟩
            have hown := HRS2.out.own p v hv
            obtain ⟨A1, cp, hvf, hW1, _⟩ := OwnW.told hown
            have g0 := HRS2.out.row.cellAt hv
            rw [hvf] at g0
            have g1 := (HBV.out.cell (p := ⟨R, p, none⟩) HRS2.out.row.lt).trans g0
            have HW1 := Lib.hid (hW1.below HBV.out)
            have hcl := chunk_le l l.length p
            have hcp := chunk_pos l p (by rw [HL.out]; exact HP2.out p hpt)
            have HFT := Lib.hid (show Fit 5 (chunk l l.length p) from ⟨by decide, hcl⟩)
            have HTK := Lib.hid (take_chunk l p)
            have hlt2 : (l.take (61 * p)).length ≤ 400 := by simp; have := HL.out; omega
            generalize hch : chunk l l.length p = ch at *
            have hm0 : ¬ ((ch.length : Int) = 0) := by omega
            have hmb : ((ch.length : Int) == 0) = false := by rw [beq_eq_false_iff_ne]; exact hm0
            have hp0 : (0 : Int) ≤ (p : Int) := by omega
            have hpP : (p : Int) < (P : Int) := by omega
            have hlen := Lib.hid hlt2
            have hcl2 := Lib.hid hcl
            clear hown hvf hW1 hv g0 hch hlt2
            go_wp2_with fail
            refine (encode_yes 5 HW1.out HFT.out).mono ?_
            rintro e w3 ⟨g3, rfl, F3⟩
            have HP3 := Lib.hid (show Has w3 g3 0 (idxPage 5 ch) from F3.has)
            have HO3 := Lib.hid (HO.out.below F3.below (Nat.le_refl _))
            have HB3 := Lib.hid (HBV.out.trans (F3.below.mono HBV.out.size))
            clear F3 HO HBV HW1
            go_wp2_with fail
            refine (decode_page 5 g3 0 128 ch _ HFT.out HP3.out (by decide) (by decide)).mono ?_
            rintro e w4 ⟨v4, rfl, O4, B4⟩
            obtain ⟨A4, c4, hv4, hW4, hn4⟩ := OwnW.told O4
            subst hv4
            have hO4 := HO3.out.below B4 (Nat.le_refl _)
            have hB4 := HB3.out.trans (B4.mono HB3.out.size)
            obtain ⟨v5, w5, hr5, O5, B5⟩ := run_append_words w4 22 wB.heap.size _ (l.take (61 * p)) ch hO4 A4 ch.length c4 rfl hW4.ws hn4 (by have := hlen.out; have := hcl2.out; omega) hB4.size
            rw [HTK.out] at O5
            have HO5 := Lib.hid O5
            have HB5 := Lib.hid (hB4.trans B5)
            clear O4 B4 hW4 hO4 hB4 O5 B5 HO3 HB3 HP3
            go_wp2_with (at_builtin; refine wpList_append_run rfl (.tmp 96) (.tmp 97) _ rfl _ _ rfl rfl v5 w5 hr5 ?_)
            go_roundw
            case rel => exact ⟨p + 1, by omega, by go_num, HO5, HB5⟩
            case measure => simp [intOf]; omega
          · obtain rfl : p = P := by omega
            have hO := HO.out
            rw [List.take_of_length_le (by rw [HL.out]; exact hP3)] at hO
            obtain ⟨A6, c6, hv6, hW6, _⟩ := OwnW.told hO
            subst hv6
            have HB6 := Lib.hid (HBW.out.trans (HBV.out.mono HBW.out.size))
            have HQ := Lib.hid (eqwords_any hW6 (HD.out.below HB6.out))
            clear hO hW6 HO HBV
            go_wp2_with fail
            with_reducible refine HQ.out.mono ?_
            rintro e w7 ⟨rfl, S7⟩
            rw [show (l == l) = true from by simp]
            have HB7 := Lib.hid (HB6.out.trans (S7.below _))
            clear S7
            go_wp2_with fail
            refine (awake_any _).mono ?_
            rintro e u2 ⟨rfl, B11⟩
            have HB11 := Lib.hid (HB7.out.trans (B11.mono HB7.out.size))
            clear B11
            go_wp2_with fail
            go_ret
            exact ⟨rfl, HB11.out⟩
  · go_enter Try.func7, Try.ntmps7
    go_wp2_with fail
    refine (awake_any _).mono ?_
    rintro e u2 ⟨rfl, B11⟩
    go_wp2_with fail
    go_ret
    exact ⟨rfl, B11⟩

theorem row_walk (A : Option Addr) (n c : Nat) (l : List UInt16) (b : Bool) (w : World) (h : Wd w A n c l) (_ : A = none → c = 0) :
    Calls Try.prog 7 #[.slice A n c, .bool b] w fun e w' => e = .returned (.bool true) ∧ Below w.heap.size w w' := by
  cases b
  · exact row_walk4 A n c l w h
  · exact row_walk5 A n c l w h
end Go.Proofs.Ytpkfcbbnfhjjlaa.Ix
