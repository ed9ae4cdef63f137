/- The walk of the statement SuperPick. -/
import Derived.Test.YtkhimoclikhlaaaSuP
import Derived.Test.YtkhimoclikhlaaaInv2
import Derived.Deep.DeepCutAuto
namespace Go.Proofs.Ytkhimoclikhlaaa.Su
open Go.RowKit Go.Shelf Go.Proofs.Ytkhimoclikhlaaa.Oct Go.Proofs.Ytkhimoclikhlaaa.Sf
set_option linter.unusedVariables false

/-- What Encode answers: an error, a page. -/
def enc0 (s : Sup) : Int := if Fit s then 0 else 60
theorem has_ne {w : World} {b o g : Nat} {T : TypeId} {ps : List UInt8} {vs : List Value} (h : Oct.Has w b o ps) (h0 : 0 < ps.length) (r : RowV w g T vs) (hv : ∀ v ∈ vs, ∀ n, v ≠ .int .u8 n) : b ≠ g := by
  rintro rfl
  have h1 := h 0 h0
  rw [Nat.add_zero] at h1
  unfold RowV at r
  have h2 : vs[o]? = some (.int .u8 (ps[0].toNat : Int)) := by simpa [World.cell?, r] using h1
  exact hv _ (List.mem_of_getElem? h2) _ rfl
theorem bts_setRow {w : World} {A : Option Addr} {n c g : Nat} {ps : List UInt8} {s : Sup} {cs : Array Value} (h : Bts w A n c ps) (r : RowV w g 27 (scells s)) : Bts (w.setRow g cs) A n c ps := by
  refine ⟨h.len, ?_, h.le, h.cap⟩
  rcases h.told with h1 | ⟨b, o, rfl, h1⟩
  · exact .inl h1
  · by_cases h0 : 0 < ps.length
    · have hne := has_ne h1 h0 r (fun v hv n => by
        simp only [scells, List.mem_map] at hv
        obtain ⟨j, _, rfl⟩ := hv
        unfold scell
        split <;> simp)
      exact .inr ⟨b, o, rfl, fun i hi => (World.cell?_of_block (setRow_other _ _ _ _ hne)).trans (h1 i hi)⟩
    · exact .inl (List.eq_nil_of_length_eq_zero (by omega))
def encp (s : Sup) : List UInt8 := if Fit s then supPage s else []
theorem encode_both (s : Sup) (hs : Ok s) (w : World) :
    Calls Try.prog 12 #[.agg (scells s).toArray] w fun e w' => ∃ A n c, e = .returned (.tuple #[.slice A n c, .int .i64 (enc0 s)]) ∧ Bts w' A n c (encp s) ∧ Below w.heap.size w w' := by
  by_cases fs : Fit s
  · refine (encode_bts s hs w fs).mono ?_
    rintro e w' ⟨g, rfl, P, -, -, k⟩
    exact ⟨_, _, _, by unfold enc0; rw [if_pos fs], by unfold encp; rw [if_pos fs]; exact P, k⟩
  · refine (encode_none s hs w fs).mono ?_
    rintro e w' ⟨rfl, k⟩
    exact ⟨_, _, _, by unfold enc0; rw [if_neg fs], by unfold encp; rw [if_neg fs]; exact ⟨rfl, .inl rfl, Nat.le_refl _, by decide⟩, k⟩
theorem counts_enc {x : Sup} (h : Ok x) (k : Nat) : Counts k (encp x) ↔ Fit x ∧ nth x 0 % 2 = k := by
  unfold encp
  by_cases f : Fit x
  · rw [if_pos f, counts_page h f]
    exact ⟨fun q => ⟨f, q⟩, fun q => q.2⟩
  · rw [if_neg f]
    exact ⟨fun q => (by have := q.1.1; cases this), fun q => absurd q.1 f⟩
theorem pe_first {x : Sup} {b : List UInt8} (h : Ok x) (c : Fit x ∧ nth x 0 % 2 = 0) (nb : ¬ Counts 1 b) : psup (encp x) b = x ∧ pslot (encp x) b = 0 ∧ perr (encp x) b = 0 := by
  have e : encp x = supPage x := by unfold encp; rw [if_pos c.1]
  rw [e]; exact pick_first h c.1 c.2 nb
theorem pe_second {y : Sup} {a : List UInt8} (h : Ok y) (c : Fit y ∧ nth y 0 % 2 = 1) (na : ¬ Counts 0 a) : psup a (encp y) = y ∧ pslot a (encp y) = 1 ∧ perr a (encp y) = 0 := by
  have e : encp y = supPage y := by unfold encp; rw [if_pos c.1]
  rw [e]; exact pick_second h c.1 c.2 na
theorem pe_both {x y : Sup} (hx : Ok x) (hy : Ok y) (c : Fit x ∧ nth x 0 % 2 = 0) (d : Fit y ∧ nth y 0 % 2 = 1) (hl : nth x 0 < nth y 0) : psup (encp x) (encp y) = y ∧ pslot (encp x) (encp y) = 1 ∧ perr (encp x) (encp y) = 0 := by
  have e : encp x = supPage x := by unfold encp; rw [if_pos c.1]
  have e2 : encp y = supPage y := by unfold encp; rw [if_pos d.1]
  rw [e, e2]; exact pick_both hx hy c.1 d.1 c.2 d.2 hl
theorem pe_both' {x y : Sup} (hx : Ok x) (hy : Ok y) (c : Fit x ∧ nth x 0 % 2 = 0) (d : Fit y ∧ nth y 0 % 2 = 1) (hl : nth y 0 < nth x 0) : psup (encp x) (encp y) = x ∧ pslot (encp x) (encp y) = 0 ∧ perr (encp x) (encp y) = 0 := by
  have e : encp x = supPage x := by unfold encp; rw [if_pos c.1]
  have e2 : encp y = supPage y := by unfold encp; rw [if_pos d.1]
  rw [e, e2]; exact pick_both' hx hy c.1 d.1 c.2 d.2 hl
set_option maxRecDepth 100000 in
set_option maxHeartbeats 8000000 in
theorem pick_walk (s : Sup) (t : Sup) (flag : Bool) (w : World) (hs : Ok s) (ht : Ok t) : Calls Try.prog 8 #[sval s, sval t, .bool flag] w fun e w' => e = .returned (.bool true) ∧ Below w.heap.size w w' := by
  have HA := Lib.hid (show ∀ w2 : World, Below w.heap.size w w2 → Calls Try.prog 10 #[] w2 fun e w' => e = .returned (.bool true) ∧ Below w.heap.size w w' from fun w2 k => (awake_any w2).mono fun e w' ⟨h1, h2⟩ => ⟨h1, k.trans (h2.mono k.size)⟩)
  have h0 := alloc_rowV w 27 (scells s)
  have k0 := (Below.refl w.heap.size w).alloc (Nat.le_refl _) (.cells (scells s).toArray 27)
  have s0 : (w.alloc (.cells (scells s).toArray 27)).heap.size = w.heap.size + 1 := by simp
  have h1 := alloc_rowV (w.alloc (.cells (scells s).toArray 27)) 27 (scells t)
  have k1 := (Below.refl (w.alloc (.cells (scells s).toArray 27)).heap.size (w.alloc (.cells (scells s).toArray 27))).alloc (Nat.le_refl _) (.cells (scells t).toArray 27)
  have HR1 := Lib.hid (h0.below h0.lt k1)
  have HB := Lib.hid (k0.trans (k1.mono k0.size))
  rw [s0] at h1
  have HR2 := Lib.hid h1
  clear h0 k0 h1 k1 s0
  unfold sval
  go_enter Try.func8, Try.ntmps8
  go_upto_region 1 with (fail)
  generalize (w.alloc (.cells (scells s).toArray 27)).alloc (.cells (scells t).toArray 27) = v0 at *
  go_wp2_with (first | (refine wpList_load_row rfl 27 (.tmp 3) rfl w.heap.size rfl _ (scells s).toArray _ _ HR1.out Try.underlying27 rfl (size_scells _) ?_) | (refine wpList_load_row rfl 27 (.tmp 4) rfl (w.heap.size + 1) rfl _ (scells t).toArray _ _ HR2.out Try.underlying27 rfl (size_scells _) ?_))
  refine (encode_both s hs v0).mono ?_
  rintro e v1 ⟨A1, n1, c1, rfl, P1, kk⟩
  replace HR1 := Lib.hid (HR1.out.below HR1.out.lt kk)
  replace HR2 := Lib.hid (HR2.out.below HR2.out.lt kk)
  replace HB := Lib.hid (HB.out.trans (kk.mono HB.out.size))
  have HP1 := Lib.hid P1
  clear P1
  clear kk
  go_wp2_with (first | (refine wpList_load_row rfl 27 (.tmp 3) rfl w.heap.size rfl _ (scells s).toArray _ _ HR1.out Try.underlying27 rfl (size_scells _) ?_) | (refine wpList_load_row rfl 27 (.tmp 4) rfl (w.heap.size + 1) rfl _ (scells t).toArray _ _ HR2.out Try.underlying27 rfl (size_scells _) ?_))
  refine (encode_both t ht v1).mono ?_
  rintro e v2 ⟨A2, n2, c2, rfl, P2, kk⟩
  replace HR1 := Lib.hid (HR1.out.below HR1.out.lt kk)
  replace HR2 := Lib.hid (HR2.out.below HR2.out.lt kk)
  replace HP1 := Lib.hid (HP1.out.below kk)
  replace HB := Lib.hid (HB.out.trans (kk.mono HB.out.size))
  have HP2 := Lib.hid P2
  clear P2
  clear kk
  have HOS := Lib.hid hs
  have HOT := Lib.hid ht
  clear hs ht
  go_upto_if 26 with (fail)
  go_cut [7, 8, 9, 10] (fun s7 s8 s9 s10 wx => ∃ (x y : Sup) (X Y : Option Addr) (n c m d : Nat), s7 = .slice X n c ∧ s8 = .int .i64 (enc0 x) ∧ s9 = .slice Y m d ∧ s10 = .int .i64 (enc0 y) ∧ Hid (Ok x) ∧ Hid (Ok y) ∧ Hid (Bts wx X n c (encp x)) ∧ Hid (Bts wx Y m d (encp y)) ∧ Hid (RowV wx w.heap.size 27 (scells x)) ∧ Hid (RowV wx (w.heap.size + 1) 27 (scells y)) ∧ Hid (Below w.heap.size w wx))
  case first =>
    cases flag with
    | false =>
      go_wp2_with fail
      go_meet
      exact ⟨s, t, A1, A2, n1, c1, n2, c2, rfl, rfl, rfl, rfl, HOS, HOT, HP1, HP2, HR1, HR2, HB⟩
    | true =>
      go_wp2_with fail
      have hnn : w.heap.size ≠ w.heap.size + 1 := by omega
      refine Inv2.wp_region_inv (fun b a wy => ∃ y7 y8 y9 y10 z27 z28 z29 z30 z31 z32, a = ⟨(List.toArray (Value.agg (scells s).toArray :: Value.agg (scells t).toArray :: Value.bool true :: Value.pointer (some { block := w.heap.size, off := 0 }) :: Value.pointer (some { block := w.heap.size + 1, off := 0 }) :: undef :: Value.bool false :: y7 :: y8 :: y9 :: y10 :: undef :: undef :: undef :: undef :: undef :: Value.tuple #[Value.slice A1 n1 c1, Value.int IntKind.i64 (enc0 s)] :: Value.agg (scells s).toArray :: Value.tuple #[Value.slice A1 n1 c1, Value.int IntKind.i64 (enc0 s)] :: Value.slice A1 n1 c1 :: Value.int IntKind.i64 (enc0 s) :: Value.tuple #[Value.slice A2 n2 c2, Value.int IntKind.i64 (enc0 t)] :: Value.agg (scells t).toArray :: Value.tuple #[Value.slice A2 n2 c2, Value.int IntKind.i64 (enc0 t)] :: Value.slice A2 n2 c2 :: Value.int IntKind.i64 (enc0 t) :: Value.bool true :: z27 :: z28 :: z29 :: z30 :: z31 :: z32 :: undef :: undef :: undef :: undef :: undef :: undef :: undef :: undef :: undef :: undef :: undef :: undef :: undef :: undef :: undef :: undef :: undef :: undef :: undef :: undef :: undef :: undef :: undef :: undef :: undef :: undef :: undef :: undef :: undef :: undef :: undef :: undef :: undef :: undef :: undef :: undef :: undef :: undef :: undef :: undef :: undef :: undef :: undef :: undef :: undef :: undef :: undef :: undef :: undef :: undef :: undef :: undef :: undef :: undef :: undef :: undef :: undef :: undef :: undef :: undef :: undef :: undef :: undef :: undef :: undef :: undef :: undef :: undef :: undef :: undef :: undef :: undef :: undef :: undef :: undef :: undef :: undef :: undef :: undef :: undef :: [])), []⟩ ∧ Hid ((b 0 = true → z27 = .slice A2 n2 c2) ∧ (b 1 = true → z28 = .slice A1 n1 c1) ∧ (b 2 = true → z29 = .agg (scells t).toArray) ∧ (b 3 = true → z30 = .agg (scells s).toArray) ∧ (b 4 = true → z31 = .int .i64 (enc0 t)) ∧ (b 5 = true → z32 = .int .i64 (enc0 s)) ∧ (b 6 = true → y7 = .slice A2 n2 c2) ∧ (b 6 = false → y7 = .slice A1 n1 c1) ∧ (b 7 = true → y9 = .slice A1 n1 c1) ∧ (b 7 = false → y9 = .slice A2 n2 c2) ∧ (b 10 = true → y8 = .int .i64 (enc0 t)) ∧ (b 10 = false → y8 = .int .i64 (enc0 s)) ∧ (b 11 = true → y10 = .int .i64 (enc0 s)) ∧ (b 11 = false → y10 = .int .i64 (enc0 t))) ∧ Hid ((b 6 = true → b 1 = true) ∧ (b 7 = true → b 0 = true) ∧ (b 10 = true → b 5 = true) ∧ (b 11 = true → b 4 = true) ∧ (b 8 = true → b 3 = true) ∧ (b 9 = true → b 2 = true)) ∧ Hid (Below w.heap.size w wy ∧ Bts wy A1 n1 c1 (encp s) ∧ Bts wy A2 n2 c2 (encp t) ∧ (∃ x, RowV wy w.heap.size 27 (scells x) ∧ (b 8 = true → x = t) ∧ (b 8 = false → x = s)) ∧ (∃ x, RowV wy (w.heap.size + 1) 27 (scells x) ∧ (b 9 = true → x = s) ∧ (b 9 = false → x = t)))) (by kernel_rfl) (by kernel_rfl) ?start ?steps ?done
      case start =>
        intro b hb
        have st : Still v2 v2.drew := ⟨rfl, rfl, rfl, rfl⟩
        refine ⟨.slice A1 n1 c1, .int .i64 (enc0 s), .slice A2 n2 c2, .int .i64 (enc0 t), undef, undef, undef, undef, undef, undef, rfl, Lib.hid ⟨?_, ?_, ?_, ?_, ?_, ?_, ?_, ?_, ?_, ?_, ?_, ?_, ?_, ?_⟩, Lib.hid ⟨?_, ?_, ?_, ?_, ?_, ?_⟩, Lib.hid ⟨HB.out.trans (st.below _), HP1.out.below (st.below _), HP2.out.below (st.below _), ⟨s, HR1.out.still st, ?_, ?_⟩, ⟨t, HR2.out.still st, ?_, ?_⟩⟩⟩
        all_goals (intro e; first | rfl | (rw [hb _ (by decide)] at e; cases e))
      case steps =>
        refine ⟨?_, ?_, ?_, ?_, ?_, ?_, ?_, ?_, ?_, ?_, ?_, ?_, trivial⟩
        · rintro b a wy hb hd ⟨y7, y8, y9, y10, z27, z28, z29, z30, z31, z32, rfl, HV, HI, HW⟩ K hK
          obtain ⟨a0, a1, a2, a3, a4, a5, b6, d6, b7, d7, b10, d10, b11, d11⟩ := HV.out
          obtain ⟨i6, i7, i10, i11, i8, i9⟩ := HI.out
          have n7 : b 7 = false := by
            cases e : b 7 with
            | false => rfl
            | true => have := i7 e; rw [hb] at this; cases this
          obtain rfl := d7 n7
          clear hd n7
          go_simp
          exact hK _ _ ⟨_, _, _, _, _, _, _, _, _, _, rfl, Lib.hid ⟨fun _ => rfl, a1, a2, a3, a4, a5, b6, d6, b7, d7, b10, d10, b11, d11⟩, Lib.hid ⟨i6, fun _ => rfl, i10, i11, i8, i9⟩, HW⟩
        · rintro b a wy hb hd ⟨y7, y8, y9, y10, z27, z28, z29, z30, z31, z32, rfl, HV, HI, HW⟩ K hK
          obtain ⟨a0, a1, a2, a3, a4, a5, b6, d6, b7, d7, b10, d10, b11, d11⟩ := HV.out
          obtain ⟨i6, i7, i10, i11, i8, i9⟩ := HI.out
          have n6 : b 6 = false := by
            cases e : b 6 with
            | false => rfl
            | true => have := i6 e; rw [hb] at this; cases this
          obtain rfl := d6 n6
          clear hd n6
          go_simp
          exact hK _ _ ⟨_, _, _, _, _, _, _, _, _, _, rfl, Lib.hid ⟨a0, fun _ => rfl, a2, a3, a4, a5, b6, d6, b7, d7, b10, d10, b11, d11⟩, Lib.hid ⟨fun _ => rfl, i7, i10, i11, i8, i9⟩, HW⟩
        · rintro b a wy hb hd ⟨y7, y8, y9, y10, z27, z28, z29, z30, z31, z32, rfl, HV, HI, HW⟩ K hK
          obtain ⟨a0, a1, a2, a3, a4, a5, b6, d6, b7, d7, b10, d10, b11, d11⟩ := HV.out
          obtain ⟨i6, i7, i10, i11, i8, i9⟩ := HI.out
          have n9 : b 9 = false := by
            cases e : b 9 with
            | false => rfl
            | true => have := i9 e; rw [hb] at this; cases this
          obtain ⟨kb, kp, kq, ⟨x1, r1, p1, q1⟩, ⟨x2, r2, p2, q2⟩⟩ := HW.out
          obtain rfl := q2 n9
          refine if_wanted rfl (wp_load_row 27 (.tmp 4) rfl (w.heap.size + 1) rfl _ _ _ _ r2 Try.underlying27 rfl (size_scells _) ?_)
          exact hK _ _ ⟨_, _, _, _, _, _, _, _, _, _, rfl, Lib.hid ⟨a0, a1, fun _ => rfl, a3, a4, a5, b6, d6, b7, d7, b10, d10, b11, d11⟩, Lib.hid ⟨i6, i7, i10, i11, i8, fun _ => rfl⟩, HW⟩
        · rintro b a wy hb hd ⟨y7, y8, y9, y10, z27, z28, z29, z30, z31, z32, rfl, HV, HI, HW⟩ K hK
          obtain ⟨a0, a1, a2, a3, a4, a5, b6, d6, b7, d7, b10, d10, b11, d11⟩ := HV.out
          obtain ⟨i6, i7, i10, i11, i8, i9⟩ := HI.out
          have n8 : b 8 = false := by
            cases e : b 8 with
            | false => rfl
            | true => have := i8 e; rw [hb] at this; cases this
          obtain ⟨kb, kp, kq, ⟨x1, r1, p1, q1⟩, ⟨x2, r2, p2, q2⟩⟩ := HW.out
          obtain rfl := q1 n8
          refine if_wanted rfl (wp_load_row 27 (.tmp 3) rfl w.heap.size rfl _ _ _ _ r1 Try.underlying27 rfl (size_scells _) ?_)
          exact hK _ _ ⟨_, _, _, _, _, _, _, _, _, _, rfl, Lib.hid ⟨a0, a1, a2, fun _ => rfl, a4, a5, b6, d6, b7, d7, b10, d10, b11, d11⟩, Lib.hid ⟨i6, i7, i10, i11, fun _ => rfl, i9⟩, HW⟩
        · rintro b a wy hb hd ⟨y7, y8, y9, y10, z27, z28, z29, z30, z31, z32, rfl, HV, HI, HW⟩ K hK
          obtain ⟨a0, a1, a2, a3, a4, a5, b6, d6, b7, d7, b10, d10, b11, d11⟩ := HV.out
          obtain ⟨i6, i7, i10, i11, i8, i9⟩ := HI.out
          have n11 : b 11 = false := by
            cases e : b 11 with
            | false => rfl
            | true => have := i11 e; rw [hb] at this; cases this
          obtain rfl := d11 n11
          clear hd n11
          go_simp
          exact hK _ _ ⟨_, _, _, _, _, _, _, _, _, _, rfl, Lib.hid ⟨a0, a1, a2, a3, fun _ => rfl, a5, b6, d6, b7, d7, b10, d10, b11, d11⟩, Lib.hid ⟨i6, i7, i10, fun _ => rfl, i8, i9⟩, HW⟩
        · rintro b a wy hb hd ⟨y7, y8, y9, y10, z27, z28, z29, z30, z31, z32, rfl, HV, HI, HW⟩ K hK
          obtain ⟨a0, a1, a2, a3, a4, a5, b6, d6, b7, d7, b10, d10, b11, d11⟩ := HV.out
          obtain ⟨i6, i7, i10, i11, i8, i9⟩ := HI.out
          have n10 : b 10 = false := by
            cases e : b 10 with
            | false => rfl
            | true => have := i10 e; rw [hb] at this; cases this
          obtain rfl := d10 n10
          clear hd n10
          go_simp
          exact hK _ _ ⟨_, _, _, _, _, _, _, _, _, _, rfl, Lib.hid ⟨a0, a1, a2, a3, a4, fun _ => rfl, b6, d6, b7, d7, b10, d10, b11, d11⟩, Lib.hid ⟨i6, i7, fun _ => rfl, i11, i8, i9⟩, HW⟩
        · rintro b a wy hb hd ⟨y7, y8, y9, y10, z27, z28, z29, z30, z31, z32, rfl, HV, HI, HW⟩ K hK
          obtain ⟨a0, a1, a2, a3, a4, a5, b6, d6, b7, d7, b10, d10, b11, d11⟩ := HV.out
          obtain ⟨i6, i7, i10, i11, i8, i9⟩ := HI.out
          simp [Region.binds] at hd
          obtain rfl := a0 (by simp [hd])
          have hd0 : b 1 = true := by simp [hd]
          have hdm : Inv.mark b 6 1 = true := by simp [Inv.mark, hd0]
          clear hd
          have HD0 := Lib.hid hd0
          have HDM := Lib.hid hdm
          clear hd0 hdm
          go_simp
          exact hK _ _ ⟨_, _, _, _, _, _, _, _, _, _, rfl, Lib.hid ⟨a0, a1, a2, a3, a4, a5, fun _ => rfl, fun e => by simp [Inv.mark] at e, b7, d7, b10, d10, b11, d11⟩, Lib.hid ⟨fun _ => HDM.out, i7, i10, i11, i8, i9⟩, HW⟩
        · rintro b a wy hb hd ⟨y7, y8, y9, y10, z27, z28, z29, z30, z31, z32, rfl, HV, HI, HW⟩ K hK
          obtain ⟨a0, a1, a2, a3, a4, a5, b6, d6, b7, d7, b10, d10, b11, d11⟩ := HV.out
          obtain ⟨i6, i7, i10, i11, i8, i9⟩ := HI.out
          simp [Region.binds] at hd
          obtain rfl := a1 (by simp [hd])
          have hd0 : b 0 = true := by simp [hd]
          have hdm : Inv.mark b 7 0 = true := by simp [Inv.mark, hd0]
          clear hd
          have HD0 := Lib.hid hd0
          have HDM := Lib.hid hdm
          clear hd0 hdm
          go_simp
          exact hK _ _ ⟨_, _, _, _, _, _, _, _, _, _, rfl, Lib.hid ⟨a0, a1, a2, a3, a4, a5, b6, d6, fun _ => rfl, fun e => by simp [Inv.mark] at e, b10, d10, b11, d11⟩, Lib.hid ⟨i6, fun _ => HDM.out, i10, i11, i8, i9⟩, HW⟩
        · rintro b a wy hb hd ⟨y7, y8, y9, y10, z27, z28, z29, z30, z31, z32, rfl, HV, HI, HW⟩ K hK
          obtain ⟨a0, a1, a2, a3, a4, a5, b6, d6, b7, d7, b10, d10, b11, d11⟩ := HV.out
          obtain ⟨i6, i7, i10, i11, i8, i9⟩ := HI.out
          simp [Region.binds] at hd
          obtain rfl := a2 (by simp [hd])
          have hdm : Inv.mark b 8 3 = true := by simp [Inv.mark, hd]
          obtain ⟨kb, kp, kq, ⟨x1, r1, p1, q1⟩, ⟨x2, r2, p2, q2⟩⟩ := HW.out
          refine if_wanted rfl (wp_store_row 27 (.tmp 3) (.tmp 29) rfl w.heap.size (scells t).toArray rfl rfl _ _ r1 (size_scells _) (by simp [length_scells]) (one_scells _) ?_)
          exact hK _ _ ⟨_, _, _, _, _, _, _, _, _, _, rfl, Lib.hid ⟨a0, a1, a2, a3, a4, a5, b6, d6, b7, d7, b10, d10, b11, d11⟩, Lib.hid ⟨i6, i7, i10, i11, fun _ => hdm, i9⟩, Lib.hid ⟨kb.trans (setRow_below _ (Nat.le_refl _)), bts_setRow kp r1, bts_setRow kq r1, ⟨t, row_setRow_same r1, fun _ => rfl, fun e => by simp [Inv.mark] at e⟩, ⟨x2, row_setRow_other r2 _ (fun e => hnn e.symm), p2, q2⟩⟩⟩
        · rintro b a wy hb hd ⟨y7, y8, y9, y10, z27, z28, z29, z30, z31, z32, rfl, HV, HI, HW⟩ K hK
          obtain ⟨a0, a1, a2, a3, a4, a5, b6, d6, b7, d7, b10, d10, b11, d11⟩ := HV.out
          obtain ⟨i6, i7, i10, i11, i8, i9⟩ := HI.out
          simp [Region.binds] at hd
          obtain rfl := a3 (by simp [hd])
          have hdm : Inv.mark b 9 2 = true := by simp [Inv.mark, hd]
          obtain ⟨kb, kp, kq, ⟨x1, r1, p1, q1⟩, ⟨x2, r2, p2, q2⟩⟩ := HW.out
          refine if_wanted rfl (wp_store_row 27 (.tmp 4) (.tmp 30) rfl (w.heap.size + 1) (scells s).toArray rfl rfl _ _ r2 (size_scells _) (by simp [length_scells]) (one_scells _) ?_)
          exact hK _ _ ⟨_, _, _, _, _, _, _, _, _, _, rfl, Lib.hid ⟨a0, a1, a2, a3, a4, a5, b6, d6, b7, d7, b10, d10, b11, d11⟩, Lib.hid ⟨i6, i7, i10, i11, i8, fun _ => hdm⟩, Lib.hid ⟨kb.trans (setRow_below _ (Nat.le_succ _)), bts_setRow kp r2, bts_setRow kq r2, ⟨x1, row_setRow_other r1 _ hnn, p1, q1⟩, ⟨s, row_setRow_same r2, fun _ => rfl, fun e => by simp [Inv.mark] at e⟩⟩⟩
        · rintro b a wy hb hd ⟨y7, y8, y9, y10, z27, z28, z29, z30, z31, z32, rfl, HV, HI, HW⟩ K hK
          obtain ⟨a0, a1, a2, a3, a4, a5, b6, d6, b7, d7, b10, d10, b11, d11⟩ := HV.out
          obtain ⟨i6, i7, i10, i11, i8, i9⟩ := HI.out
          simp [Region.binds] at hd
          obtain rfl := a4 (by simp [hd])
          have hd0 : b 5 = true := by simp [hd]
          have hdm : Inv.mark b 10 5 = true := by simp [Inv.mark, hd0]
          clear hd
          have HD0 := Lib.hid hd0
          have HDM := Lib.hid hdm
          clear hd0 hdm
          go_simp
          exact hK _ _ ⟨_, _, _, _, _, _, _, _, _, _, rfl, Lib.hid ⟨a0, a1, a2, a3, a4, a5, b6, d6, b7, d7, fun _ => rfl, fun e => by simp [Inv.mark] at e, b11, d11⟩, Lib.hid ⟨i6, i7, fun _ => HDM.out, i11, i8, i9⟩, HW⟩
        · rintro b a wy hb hd ⟨y7, y8, y9, y10, z27, z28, z29, z30, z31, z32, rfl, HV, HI, HW⟩ K hK
          obtain ⟨a0, a1, a2, a3, a4, a5, b6, d6, b7, d7, b10, d10, b11, d11⟩ := HV.out
          obtain ⟨i6, i7, i10, i11, i8, i9⟩ := HI.out
          simp [Region.binds] at hd
          obtain rfl := a5 (by simp [hd])
          have hd0 : b 4 = true := by simp [hd]
          have hdm : Inv.mark b 11 4 = true := by simp [Inv.mark, hd0]
          clear hd
          have HD0 := Lib.hid hd0
          have HDM := Lib.hid hdm
          clear hd0 hdm
          go_simp
          exact hK _ _ ⟨_, _, _, _, _, _, _, _, _, _, rfl, Lib.hid ⟨a0, a1, a2, a3, a4, a5, b6, d6, b7, d7, b10, d10, fun _ => rfl, fun e => by simp [Inv.mark] at e⟩, Lib.hid ⟨i6, i7, i10, fun _ => HDM.out, i8, i9⟩, HW⟩
      case done =>
        rintro b a wy hb ⟨y7, y8, y9, y10, z27, z28, z29, z30, z31, z32, rfl, HV, HI, HW⟩
        obtain ⟨a0, a1, a2, a3, a4, a5, b6, d6, b7, d7, b10, d10, b11, d11⟩ := HV.out
        obtain ⟨kb, kp, kq, ⟨x1, r1, p1, q1⟩, ⟨x2, r2, p2, q2⟩⟩ := HW.out
        obtain rfl := a0 (hb 0)
        obtain rfl := a1 (hb 1)
        obtain rfl := a2 (hb 2)
        obtain rfl := a3 (hb 3)
        obtain rfl := a4 (hb 4)
        obtain rfl := a5 (hb 5)
        obtain rfl := b6 (hb 6)
        obtain rfl := b7 (hb 7)
        obtain rfl := b10 (hb 10)
        obtain rfl := b11 (hb 11)
        obtain rfl := p1 (hb 8)
        obtain rfl := p2 (hb 9)
        have HW2 := Lib.hid (And.intro kb (And.intro kp (And.intro kq (And.intro r1 r2))))
        clear HV HI HW a0 a1 a2 a3 a4 a5 b6 d6 b7 d7 b10 d10 b11 d11 kb kp kq r1 r2 p1 p2 q1 q2 hb
        go_wp2_with fail
        go_meet
        exact ⟨_, _, A2, A1, n2, c2, n1, c1, rfl, rfl, rfl, rfl, HOT, HOS, Lib.hid HW2.out.2.2.1, Lib.hid HW2.out.2.1, Lib.hid HW2.out.2.2.2.1, Lib.hid HW2.out.2.2.2.2, Lib.hid HW2.out.1⟩
  case rest =>
    obtain ⟨x, y, X, Y, n, cc, m, d, rfl, rfl, rfl, rfl, HOX, HOY, HPX, HPY, HRX, HRY, HB⟩ := hcut
    obtain ⟨va, hva⟩ : ∃ q, q = wc := ⟨_, rfl⟩
    subst hva
    clear HR1 HR2 HP1 HP2 HOS HOT
    go_upto_region 5 with (fail)
    go_cut [11, 12] (fun s11 s12 wx => ∃ F1 F2 : Bool, s11 = .bool F1 ∧ s12 = .bool F2 ∧ Hid (F1 = true ↔ Fit x ∧ nth x 0 % 2 = 0) ∧ Hid (F2 = true ↔ Fit y ∧ nth y 0 % 2 = 1) ∧ Hid (Below va.heap.size va wx))
    case first =>
      have hgx := HOX.out.lt 0
      have hgy := HOY.out.lt 0
      by_cases fx : Fit x
      · by_cases fy : Fit y
        · have e8 := Lib.hid (show enc0 x = 0 by unfold enc0; rw [if_pos fx])
          have e10 := Lib.hid (show enc0 y = 0 by unfold enc0; rw [if_pos fy])
          refine Inv2.wp_region_inv (fun b a wy => ∃ z11 z12 z33 z34 z35 z36 z37 z38 z39 z40 z41 z42 z43 z44 z45 z46 z47 z48, a = ⟨(List.toArray (Value.agg (scells s).toArray :: Value.agg (scells t).toArray :: Value.bool flag :: Value.pointer (some { block := w.heap.size, off := 0 }) :: Value.pointer (some { block := w.heap.size + 1, off := 0 }) :: undef :: Value.bool false :: Value.slice X n cc :: Value.int IntKind.i64 (enc0 x) :: Value.slice Y m d :: Value.int IntKind.i64 (enc0 y) :: z11 :: z12 :: undef :: undef :: undef :: u16 :: u17 :: u18 :: u19 :: u20 :: u21 :: u22 :: u23 :: u24 :: u25 :: u26 :: u27 :: u28 :: u29 :: u30 :: u31 :: u32 :: z33 :: z34 :: z35 :: z36 :: z37 :: z38 :: z39 :: z40 :: z41 :: z42 :: z43 :: z44 :: z45 :: z46 :: z47 :: z48 :: u49 :: u50 :: u51 :: u52 :: u53 :: u54 :: u55 :: u56 :: u57 :: u58 :: u59 :: u60 :: u61 :: u62 :: u63 :: u64 :: u65 :: u66 :: u67 :: u68 :: u69 :: u70 :: u71 :: u72 :: u73 :: u74 :: u75 :: u76 :: u77 :: u78 :: u79 :: u80 :: u81 :: u82 :: u83 :: u84 :: u85 :: u86 :: u87 :: u88 :: u89 :: u90 :: u91 :: u92 :: u93 :: u94 :: u95 :: u96 :: u97 :: u98 :: u99 :: u100 :: u101 :: u102 :: u103 :: u104 :: u105 :: u106 :: u107 :: u108 :: u109 :: u110 :: u111 :: u112 :: [])), []⟩ ∧ Hid ((b 0 = true → z33 = Value.int IntKind.i64 (enc0 x)) ∧ (b 1 = true → z34 = .bool true) ∧ (b 2 = true → z35 = .bool true) ∧ (b 3 = true → z36 = .pointer (some ⟨w.heap.size, 0, none⟩)) ∧ (b 4 = true → z37 = .int .u64 (nth x 0 : Int)) ∧ (b 5 = true → z38 = .int .u64 ((nth x 0 : Int) % 2)) ∧ (b 6 = true → z39 = .bool (((nth x 0 : Int) % 2) == 0)) ∧ (b 7 = true → z40 = .bool (((nth x 0 : Int) % 2) == 0)) ∧ (b 8 = true → z41 = Value.int IntKind.i64 (enc0 y)) ∧ (b 9 = true → z42 = .bool true) ∧ (b 10 = true → z43 = .bool true) ∧ (b 11 = true → z44 = .pointer (some ⟨w.heap.size + 1, 0, none⟩)) ∧ (b 12 = true → z45 = .int .u64 (nth y 0 : Int)) ∧ (b 13 = true → z46 = .int .u64 ((nth y 0 : Int) % 2)) ∧ (b 14 = true → z47 = .bool (((nth y 0 : Int) % 2) == 1)) ∧ (b 15 = true → z48 = .bool (((nth y 0 : Int) % 2) == 1)) ∧ (b 16 = true → z11 = .bool (((nth x 0 : Int) % 2) == 0)) ∧ (b 17 = true → z12 = .bool (((nth y 0 : Int) % 2) == 1))) ∧ Hid (Below va.heap.size va wy)) (by kernel_rfl) (by kernel_rfl) ?startP11 ?stepsP11 ?doneP11
          case startP11 =>
            intro b hb
            refine ⟨undef, undef, u33, u34, u35, u36, u37, u38, u39, u40, u41, u42, u43, u44, u45, u46, u47, u48, rfl, Lib.hid ⟨?_, ?_, ?_, ?_, ?_, ?_, ?_, ?_, ?_, ?_, ?_, ?_, ?_, ?_, ?_, ?_, ?_, ?_⟩, Lib.hid ((show Still va va.drew from ⟨rfl, rfl, rfl, rfl⟩).below _)⟩
            all_goals (intro e; first | rfl | (rw [hb _ (by decide)] at e; cases e))
          case stepsP11 =>
            refine ⟨?_, ?_, ?_, ?_, ?_, ?_, ?_, ?_, ?_, ?_, ?_, ?_, ?_, ?_, ?_, ?_, ?_, ?_, trivial⟩
            · rintro b a wy hb hd ⟨z11, z12, z33, z34, z35, z36, z37, z38, z39, z40, z41, z42, z43, z44, z45, z46, z47, z48, rfl, HV, HW⟩ K hK
              obtain ⟨h0, h1, h2, h3, h4, h5, h6, h7, h8, h9, h10, h11, h12, h13, h14, h15, h16, h17⟩ := HV.out
              clear hd
              go_simp
              exact hK _ _ ⟨_, _, _, _, _, _, _, _, _, _, _, _, _, _, _, _, _, _, rfl, Lib.hid ⟨fun _ => rfl, h1, h2, h3, h4, h5, h6, h7, h8, h9, h10, h11, h12, h13, h14, h15, h16, h17⟩, HW⟩
            · rintro b a wy hb hd ⟨z11, z12, z33, z34, z35, z36, z37, z38, z39, z40, z41, z42, z43, z44, z45, z46, z47, z48, rfl, HV, HW⟩ K hK
              obtain ⟨h0, h1, h2, h3, h4, h5, h6, h7, h8, h9, h10, h11, h12, h13, h14, h15, h16, h17⟩ := HV.out
              simp [Region.binds] at hd
              obtain rfl := h0 (by simp [hd])
              clear hd
              go_simp
              exact hK _ _ ⟨_, _, _, _, _, _, _, _, _, _, _, _, _, _, _, _, _, _, rfl, Lib.hid ⟨h0, fun _ => (by first | rfl | (rw [e8.out]; rfl) | simp [e8.out]), h2, h3, h4, h5, h6, h7, h8, h9, h10, h11, h12, h13, h14, h15, h16, h17⟩, HW⟩
            · rintro b a wy hb hd ⟨z11, z12, z33, z34, z35, z36, z37, z38, z39, z40, z41, z42, z43, z44, z45, z46, z47, z48, rfl, HV, HW⟩ K hK
              obtain ⟨h0, h1, h2, h3, h4, h5, h6, h7, h8, h9, h10, h11, h12, h13, h14, h15, h16, h17⟩ := HV.out
              simp [Region.binds] at hd
              obtain rfl := h1 (by simp [hd])
              clear hd
              go_simp
              exact hK _ _ ⟨_, _, _, _, _, _, _, _, _, _, _, _, _, _, _, _, _, _, rfl, Lib.hid ⟨h0, h1, fun _ => rfl, h3, h4, h5, h6, h7, h8, h9, h10, h11, h12, h13, h14, h15, h16, h17⟩, HW⟩
            · rintro b a wy hb hd ⟨z11, z12, z33, z34, z35, z36, z37, z38, z39, z40, z41, z42, z43, z44, z45, z46, z47, z48, rfl, HV, HW⟩ K hK
              obtain ⟨h0, h1, h2, h3, h4, h5, h6, h7, h8, h9, h10, h11, h12, h13, h14, h15, h16, h17⟩ := HV.out
              simp [Region.binds] at hd
              obtain rfl := h2 (by simp [hd])
              clear hd
              go_simp
              exact hK _ _ ⟨_, _, _, _, _, _, _, _, _, _, _, _, _, _, _, _, _, _, rfl, Lib.hid ⟨h0, h1, h2, fun _ => rfl, h4, h5, h6, h7, h8, h9, h10, h11, h12, h13, h14, h15, h16, h17⟩, HW⟩
            · rintro b a wy hb hd ⟨z11, z12, z33, z34, z35, z36, z37, z38, z39, z40, z41, z42, z43, z44, z45, z46, z47, z48, rfl, HV, HW⟩ K hK
              obtain ⟨h0, h1, h2, h3, h4, h5, h6, h7, h8, h9, h10, h11, h12, h13, h14, h15, h16, h17⟩ := HV.out
              simp [Region.binds] at hd
              obtain rfl := h2 (by simp [hd])
              obtain rfl := h3 (by simp [hd])
              clear hd
              have hc := (HRX.out.below HRX.out.lt HW.out).cellAt (scells_at x 0 (by decide))
              rw [scell_wide _ _ (.inl rfl)] at hc
              go_simp
              exact hK _ _ ⟨_, _, _, _, _, _, _, _, _, _, _, _, _, _, _, _, _, _, rfl, Lib.hid ⟨h0, h1, h2, h3, fun _ => rfl, h5, h6, h7, h8, h9, h10, h11, h12, h13, h14, h15, h16, h17⟩, HW⟩
            · rintro b a wy hb hd ⟨z11, z12, z33, z34, z35, z36, z37, z38, z39, z40, z41, z42, z43, z44, z45, z46, z47, z48, rfl, HV, HW⟩ K hK
              obtain ⟨h0, h1, h2, h3, h4, h5, h6, h7, h8, h9, h10, h11, h12, h13, h14, h15, h16, h17⟩ := HV.out
              simp [Region.binds] at hd
              obtain rfl := h2 (by simp [hd])
              obtain rfl := h4 (by simp [hd])
              clear hd
              go_simp
              exact hK _ _ ⟨_, _, _, _, _, _, _, _, _, _, _, _, _, _, _, _, _, _, rfl, Lib.hid ⟨h0, h1, h2, h3, h4, fun _ => rfl, h6, h7, h8, h9, h10, h11, h12, h13, h14, h15, h16, h17⟩, HW⟩
            · rintro b a wy hb hd ⟨z11, z12, z33, z34, z35, z36, z37, z38, z39, z40, z41, z42, z43, z44, z45, z46, z47, z48, rfl, HV, HW⟩ K hK
              obtain ⟨h0, h1, h2, h3, h4, h5, h6, h7, h8, h9, h10, h11, h12, h13, h14, h15, h16, h17⟩ := HV.out
              simp [Region.binds] at hd
              obtain rfl := h2 (by simp [hd])
              obtain rfl := h5 (by simp [hd])
              clear hd
              go_simp
              exact hK _ _ ⟨_, _, _, _, _, _, _, _, _, _, _, _, _, _, _, _, _, _, rfl, Lib.hid ⟨h0, h1, h2, h3, h4, h5, fun _ => rfl, h7, h8, h9, h10, h11, h12, h13, h14, h15, h16, h17⟩, HW⟩
            · rintro b a wy hb hd ⟨z11, z12, z33, z34, z35, z36, z37, z38, z39, z40, z41, z42, z43, z44, z45, z46, z47, z48, rfl, HV, HW⟩ K hK
              obtain ⟨h0, h1, h2, h3, h4, h5, h6, h7, h8, h9, h10, h11, h12, h13, h14, h15, h16, h17⟩ := HV.out
              simp [Region.binds] at hd
              obtain rfl := h2 (by simp [hd])
              obtain rfl := h6 (by simp [hd])
              clear hd
              go_simp
              exact hK _ _ ⟨_, _, _, _, _, _, _, _, _, _, _, _, _, _, _, _, _, _, rfl, Lib.hid ⟨h0, h1, h2, h3, h4, h5, h6, fun _ => rfl, h8, h9, h10, h11, h12, h13, h14, h15, h16, h17⟩, HW⟩
            · rintro b a wy hb hd ⟨z11, z12, z33, z34, z35, z36, z37, z38, z39, z40, z41, z42, z43, z44, z45, z46, z47, z48, rfl, HV, HW⟩ K hK
              obtain ⟨h0, h1, h2, h3, h4, h5, h6, h7, h8, h9, h10, h11, h12, h13, h14, h15, h16, h17⟩ := HV.out
              clear hd
              go_simp
              exact hK _ _ ⟨_, _, _, _, _, _, _, _, _, _, _, _, _, _, _, _, _, _, rfl, Lib.hid ⟨h0, h1, h2, h3, h4, h5, h6, h7, fun _ => rfl, h9, h10, h11, h12, h13, h14, h15, h16, h17⟩, HW⟩
            · rintro b a wy hb hd ⟨z11, z12, z33, z34, z35, z36, z37, z38, z39, z40, z41, z42, z43, z44, z45, z46, z47, z48, rfl, HV, HW⟩ K hK
              obtain ⟨h0, h1, h2, h3, h4, h5, h6, h7, h8, h9, h10, h11, h12, h13, h14, h15, h16, h17⟩ := HV.out
              simp [Region.binds] at hd
              obtain rfl := h8 (by simp [hd])
              clear hd
              go_simp
              exact hK _ _ ⟨_, _, _, _, _, _, _, _, _, _, _, _, _, _, _, _, _, _, rfl, Lib.hid ⟨h0, h1, h2, h3, h4, h5, h6, h7, h8, fun _ => (by first | rfl | (rw [e10.out]; rfl) | simp [e10.out]), h10, h11, h12, h13, h14, h15, h16, h17⟩, HW⟩
            · rintro b a wy hb hd ⟨z11, z12, z33, z34, z35, z36, z37, z38, z39, z40, z41, z42, z43, z44, z45, z46, z47, z48, rfl, HV, HW⟩ K hK
              obtain ⟨h0, h1, h2, h3, h4, h5, h6, h7, h8, h9, h10, h11, h12, h13, h14, h15, h16, h17⟩ := HV.out
              simp [Region.binds] at hd
              obtain rfl := h9 (by simp [hd])
              clear hd
              go_simp
              exact hK _ _ ⟨_, _, _, _, _, _, _, _, _, _, _, _, _, _, _, _, _, _, rfl, Lib.hid ⟨h0, h1, h2, h3, h4, h5, h6, h7, h8, h9, fun _ => rfl, h11, h12, h13, h14, h15, h16, h17⟩, HW⟩
            · rintro b a wy hb hd ⟨z11, z12, z33, z34, z35, z36, z37, z38, z39, z40, z41, z42, z43, z44, z45, z46, z47, z48, rfl, HV, HW⟩ K hK
              obtain ⟨h0, h1, h2, h3, h4, h5, h6, h7, h8, h9, h10, h11, h12, h13, h14, h15, h16, h17⟩ := HV.out
              simp [Region.binds] at hd
              obtain rfl := h10 (by simp [hd])
              clear hd
              go_simp
              exact hK _ _ ⟨_, _, _, _, _, _, _, _, _, _, _, _, _, _, _, _, _, _, rfl, Lib.hid ⟨h0, h1, h2, h3, h4, h5, h6, h7, h8, h9, h10, fun _ => rfl, h12, h13, h14, h15, h16, h17⟩, HW⟩
            · rintro b a wy hb hd ⟨z11, z12, z33, z34, z35, z36, z37, z38, z39, z40, z41, z42, z43, z44, z45, z46, z47, z48, rfl, HV, HW⟩ K hK
              obtain ⟨h0, h1, h2, h3, h4, h5, h6, h7, h8, h9, h10, h11, h12, h13, h14, h15, h16, h17⟩ := HV.out
              simp [Region.binds] at hd
              obtain rfl := h10 (by simp [hd])
              obtain rfl := h11 (by simp [hd])
              clear hd
              have hc := (HRY.out.below HRY.out.lt HW.out).cellAt (scells_at y 0 (by decide))
              rw [scell_wide _ _ (.inl rfl)] at hc
              go_simp
              exact hK _ _ ⟨_, _, _, _, _, _, _, _, _, _, _, _, _, _, _, _, _, _, rfl, Lib.hid ⟨h0, h1, h2, h3, h4, h5, h6, h7, h8, h9, h10, h11, fun _ => rfl, h13, h14, h15, h16, h17⟩, HW⟩
            · rintro b a wy hb hd ⟨z11, z12, z33, z34, z35, z36, z37, z38, z39, z40, z41, z42, z43, z44, z45, z46, z47, z48, rfl, HV, HW⟩ K hK
              obtain ⟨h0, h1, h2, h3, h4, h5, h6, h7, h8, h9, h10, h11, h12, h13, h14, h15, h16, h17⟩ := HV.out
              simp [Region.binds] at hd
              obtain rfl := h10 (by simp [hd])
              obtain rfl := h12 (by simp [hd])
              clear hd
              go_simp
              exact hK _ _ ⟨_, _, _, _, _, _, _, _, _, _, _, _, _, _, _, _, _, _, rfl, Lib.hid ⟨h0, h1, h2, h3, h4, h5, h6, h7, h8, h9, h10, h11, h12, fun _ => rfl, h14, h15, h16, h17⟩, HW⟩
            · rintro b a wy hb hd ⟨z11, z12, z33, z34, z35, z36, z37, z38, z39, z40, z41, z42, z43, z44, z45, z46, z47, z48, rfl, HV, HW⟩ K hK
              obtain ⟨h0, h1, h2, h3, h4, h5, h6, h7, h8, h9, h10, h11, h12, h13, h14, h15, h16, h17⟩ := HV.out
              simp [Region.binds] at hd
              obtain rfl := h10 (by simp [hd])
              obtain rfl := h13 (by simp [hd])
              clear hd
              go_simp
              exact hK _ _ ⟨_, _, _, _, _, _, _, _, _, _, _, _, _, _, _, _, _, _, rfl, Lib.hid ⟨h0, h1, h2, h3, h4, h5, h6, h7, h8, h9, h10, h11, h12, h13, fun _ => rfl, h15, h16, h17⟩, HW⟩
            · rintro b a wy hb hd ⟨z11, z12, z33, z34, z35, z36, z37, z38, z39, z40, z41, z42, z43, z44, z45, z46, z47, z48, rfl, HV, HW⟩ K hK
              obtain ⟨h0, h1, h2, h3, h4, h5, h6, h7, h8, h9, h10, h11, h12, h13, h14, h15, h16, h17⟩ := HV.out
              simp [Region.binds] at hd
              obtain rfl := h10 (by simp [hd])
              obtain rfl := h14 (by simp [hd])
              clear hd
              go_simp
              exact hK _ _ ⟨_, _, _, _, _, _, _, _, _, _, _, _, _, _, _, _, _, _, rfl, Lib.hid ⟨h0, h1, h2, h3, h4, h5, h6, h7, h8, h9, h10, h11, h12, h13, h14, fun _ => rfl, h16, h17⟩, HW⟩
            · rintro b a wy hb hd ⟨z11, z12, z33, z34, z35, z36, z37, z38, z39, z40, z41, z42, z43, z44, z45, z46, z47, z48, rfl, HV, HW⟩ K hK
              obtain ⟨h0, h1, h2, h3, h4, h5, h6, h7, h8, h9, h10, h11, h12, h13, h14, h15, h16, h17⟩ := HV.out
              simp [Region.binds] at hd
              obtain rfl := h7 (by simp [hd])
              clear hd
              go_simp
              exact hK _ _ ⟨_, _, _, _, _, _, _, _, _, _, _, _, _, _, _, _, _, _, rfl, Lib.hid ⟨h0, h1, h2, h3, h4, h5, h6, h7, h8, h9, h10, h11, h12, h13, h14, h15, fun _ => rfl, h17⟩, HW⟩
            · rintro b a wy hb hd ⟨z11, z12, z33, z34, z35, z36, z37, z38, z39, z40, z41, z42, z43, z44, z45, z46, z47, z48, rfl, HV, HW⟩ K hK
              obtain ⟨h0, h1, h2, h3, h4, h5, h6, h7, h8, h9, h10, h11, h12, h13, h14, h15, h16, h17⟩ := HV.out
              simp [Region.binds] at hd
              obtain rfl := h15 (by simp [hd])
              clear hd
              go_simp
              exact hK _ _ ⟨_, _, _, _, _, _, _, _, _, _, _, _, _, _, _, _, _, _, rfl, Lib.hid ⟨h0, h1, h2, h3, h4, h5, h6, h7, h8, h9, h10, h11, h12, h13, h14, h15, h16, fun _ => rfl⟩, HW⟩
          case doneP11 =>
            rintro b a wy hb ⟨z11, z12, z33, z34, z35, z36, z37, z38, z39, z40, z41, z42, z43, z44, z45, z46, z47, z48, rfl, HV, HW⟩
            obtain ⟨h0, h1, h2, h3, h4, h5, h6, h7, h8, h9, h10, h11, h12, h13, h14, h15, h16, h17⟩ := HV.out
            obtain rfl := h0 (hb 0)
            obtain rfl := h1 (hb 1)
            obtain rfl := h2 (hb 2)
            obtain rfl := h3 (hb 3)
            obtain rfl := h4 (hb 4)
            obtain rfl := h5 (hb 5)
            obtain rfl := h6 (hb 6)
            obtain rfl := h7 (hb 7)
            obtain rfl := h8 (hb 8)
            obtain rfl := h9 (hb 9)
            obtain rfl := h10 (hb 10)
            obtain rfl := h11 (hb 11)
            obtain rfl := h12 (hb 12)
            obtain rfl := h13 (hb 13)
            obtain rfl := h14 (hb 14)
            obtain rfl := h15 (hb 15)
            obtain rfl := h16 (hb 16)
            obtain rfl := h17 (hb 17)
            clear HV hb h0 h1 h2 h3 h4 h5 h6 h7 h8 h9 h10 h11 h12 h13 h14 h15 h16 h17
            have HWW := HW
            clear HW
            go_wp2_with fail
            go_meet
            exact ⟨_, _, rfl, rfl, Lib.hid (by simp only [beq_iff_eq]; exact ⟨fun q => ⟨fx, by omega⟩, fun q => by have := q.2; omega⟩), Lib.hid (by simp only [beq_iff_eq]; exact ⟨fun q => ⟨fy, by omega⟩, fun q => by have := q.2; omega⟩), HWW⟩
        · have e8 := Lib.hid (show enc0 x = 0 by unfold enc0; rw [if_pos fx])
          have e10 := Lib.hid (show enc0 y = 60 by unfold enc0; rw [if_neg fy])
          refine Inv2.wp_region_inv (fun b a wy => ∃ z11 z12 z33 z34 z35 z36 z37 z38 z39 z40 z41 z42 z43 z44 z45 z46 z47 z48, a = ⟨(List.toArray (Value.agg (scells s).toArray :: Value.agg (scells t).toArray :: Value.bool flag :: Value.pointer (some { block := w.heap.size, off := 0 }) :: Value.pointer (some { block := w.heap.size + 1, off := 0 }) :: undef :: Value.bool false :: Value.slice X n cc :: Value.int IntKind.i64 (enc0 x) :: Value.slice Y m d :: Value.int IntKind.i64 (enc0 y) :: z11 :: z12 :: undef :: undef :: undef :: u16 :: u17 :: u18 :: u19 :: u20 :: u21 :: u22 :: u23 :: u24 :: u25 :: u26 :: u27 :: u28 :: u29 :: u30 :: u31 :: u32 :: z33 :: z34 :: z35 :: z36 :: z37 :: z38 :: z39 :: z40 :: z41 :: z42 :: z43 :: z44 :: z45 :: z46 :: z47 :: z48 :: u49 :: u50 :: u51 :: u52 :: u53 :: u54 :: u55 :: u56 :: u57 :: u58 :: u59 :: u60 :: u61 :: u62 :: u63 :: u64 :: u65 :: u66 :: u67 :: u68 :: u69 :: u70 :: u71 :: u72 :: u73 :: u74 :: u75 :: u76 :: u77 :: u78 :: u79 :: u80 :: u81 :: u82 :: u83 :: u84 :: u85 :: u86 :: u87 :: u88 :: u89 :: u90 :: u91 :: u92 :: u93 :: u94 :: u95 :: u96 :: u97 :: u98 :: u99 :: u100 :: u101 :: u102 :: u103 :: u104 :: u105 :: u106 :: u107 :: u108 :: u109 :: u110 :: u111 :: u112 :: [])), []⟩ ∧ Hid ((b 0 = true → z33 = Value.int IntKind.i64 (enc0 x)) ∧ (b 1 = true → z34 = .bool true) ∧ (b 2 = true → z35 = .bool true) ∧ (b 3 = true → z36 = .pointer (some ⟨w.heap.size, 0, none⟩)) ∧ (b 4 = true → z37 = .int .u64 (nth x 0 : Int)) ∧ (b 5 = true → z38 = .int .u64 ((nth x 0 : Int) % 2)) ∧ (b 6 = true → z39 = .bool (((nth x 0 : Int) % 2) == 0)) ∧ (b 7 = true → z40 = .bool (((nth x 0 : Int) % 2) == 0)) ∧ (b 8 = true → z41 = Value.int IntKind.i64 (enc0 y)) ∧ (b 9 = true → z42 = .bool false) ∧ (b 10 = true → z43 = .bool false) ∧ (b 11 = true → z44 = undef) ∧ (b 12 = true → z45 = undef) ∧ (b 13 = true → z46 = undef) ∧ (b 14 = true → z47 = undef) ∧ (b 15 = true → z48 = Value.bool false) ∧ (b 16 = true → z11 = .bool (((nth x 0 : Int) % 2) == 0)) ∧ (b 17 = true → z12 = Value.bool false)) ∧ Hid (Below va.heap.size va wy)) (by kernel_rfl) (by kernel_rfl) ?startP10 ?stepsP10 ?doneP10
          case startP10 =>
            intro b hb
            refine ⟨undef, undef, u33, u34, u35, u36, u37, u38, u39, u40, u41, u42, u43, u44, u45, u46, u47, u48, rfl, Lib.hid ⟨?_, ?_, ?_, ?_, ?_, ?_, ?_, ?_, ?_, ?_, ?_, ?_, ?_, ?_, ?_, ?_, ?_, ?_⟩, Lib.hid ((show Still va va.drew from ⟨rfl, rfl, rfl, rfl⟩).below _)⟩
            all_goals (intro e; first | rfl | (rw [hb _ (by decide)] at e; cases e))
          case stepsP10 =>
            refine ⟨?_, ?_, ?_, ?_, ?_, ?_, ?_, ?_, ?_, ?_, ?_, ?_, ?_, ?_, ?_, ?_, ?_, ?_, trivial⟩
            · rintro b a wy hb hd ⟨z11, z12, z33, z34, z35, z36, z37, z38, z39, z40, z41, z42, z43, z44, z45, z46, z47, z48, rfl, HV, HW⟩ K hK
              obtain ⟨h0, h1, h2, h3, h4, h5, h6, h7, h8, h9, h10, h11, h12, h13, h14, h15, h16, h17⟩ := HV.out
              clear hd
              go_simp
              exact hK _ _ ⟨_, _, _, _, _, _, _, _, _, _, _, _, _, _, _, _, _, _, rfl, Lib.hid ⟨fun _ => rfl, h1, h2, h3, h4, h5, h6, h7, h8, h9, h10, h11, h12, h13, h14, h15, h16, h17⟩, HW⟩
            · rintro b a wy hb hd ⟨z11, z12, z33, z34, z35, z36, z37, z38, z39, z40, z41, z42, z43, z44, z45, z46, z47, z48, rfl, HV, HW⟩ K hK
              obtain ⟨h0, h1, h2, h3, h4, h5, h6, h7, h8, h9, h10, h11, h12, h13, h14, h15, h16, h17⟩ := HV.out
              simp [Region.binds] at hd
              obtain rfl := h0 (by simp [hd])
              clear hd
              go_simp
              exact hK _ _ ⟨_, _, _, _, _, _, _, _, _, _, _, _, _, _, _, _, _, _, rfl, Lib.hid ⟨h0, fun _ => (by first | rfl | (rw [e8.out]; rfl) | simp [e8.out]), h2, h3, h4, h5, h6, h7, h8, h9, h10, h11, h12, h13, h14, h15, h16, h17⟩, HW⟩
            · rintro b a wy hb hd ⟨z11, z12, z33, z34, z35, z36, z37, z38, z39, z40, z41, z42, z43, z44, z45, z46, z47, z48, rfl, HV, HW⟩ K hK
              obtain ⟨h0, h1, h2, h3, h4, h5, h6, h7, h8, h9, h10, h11, h12, h13, h14, h15, h16, h17⟩ := HV.out
              simp [Region.binds] at hd
              obtain rfl := h1 (by simp [hd])
              clear hd
              go_simp
              exact hK _ _ ⟨_, _, _, _, _, _, _, _, _, _, _, _, _, _, _, _, _, _, rfl, Lib.hid ⟨h0, h1, fun _ => rfl, h3, h4, h5, h6, h7, h8, h9, h10, h11, h12, h13, h14, h15, h16, h17⟩, HW⟩
            · rintro b a wy hb hd ⟨z11, z12, z33, z34, z35, z36, z37, z38, z39, z40, z41, z42, z43, z44, z45, z46, z47, z48, rfl, HV, HW⟩ K hK
              obtain ⟨h0, h1, h2, h3, h4, h5, h6, h7, h8, h9, h10, h11, h12, h13, h14, h15, h16, h17⟩ := HV.out
              simp [Region.binds] at hd
              obtain rfl := h2 (by simp [hd])
              clear hd
              go_simp
              exact hK _ _ ⟨_, _, _, _, _, _, _, _, _, _, _, _, _, _, _, _, _, _, rfl, Lib.hid ⟨h0, h1, h2, fun _ => rfl, h4, h5, h6, h7, h8, h9, h10, h11, h12, h13, h14, h15, h16, h17⟩, HW⟩
            · rintro b a wy hb hd ⟨z11, z12, z33, z34, z35, z36, z37, z38, z39, z40, z41, z42, z43, z44, z45, z46, z47, z48, rfl, HV, HW⟩ K hK
              obtain ⟨h0, h1, h2, h3, h4, h5, h6, h7, h8, h9, h10, h11, h12, h13, h14, h15, h16, h17⟩ := HV.out
              simp [Region.binds] at hd
              obtain rfl := h2 (by simp [hd])
              obtain rfl := h3 (by simp [hd])
              clear hd
              have hc := (HRX.out.below HRX.out.lt HW.out).cellAt (scells_at x 0 (by decide))
              rw [scell_wide _ _ (.inl rfl)] at hc
              go_simp
              exact hK _ _ ⟨_, _, _, _, _, _, _, _, _, _, _, _, _, _, _, _, _, _, rfl, Lib.hid ⟨h0, h1, h2, h3, fun _ => rfl, h5, h6, h7, h8, h9, h10, h11, h12, h13, h14, h15, h16, h17⟩, HW⟩
            · rintro b a wy hb hd ⟨z11, z12, z33, z34, z35, z36, z37, z38, z39, z40, z41, z42, z43, z44, z45, z46, z47, z48, rfl, HV, HW⟩ K hK
              obtain ⟨h0, h1, h2, h3, h4, h5, h6, h7, h8, h9, h10, h11, h12, h13, h14, h15, h16, h17⟩ := HV.out
              simp [Region.binds] at hd
              obtain rfl := h2 (by simp [hd])
              obtain rfl := h4 (by simp [hd])
              clear hd
              go_simp
              exact hK _ _ ⟨_, _, _, _, _, _, _, _, _, _, _, _, _, _, _, _, _, _, rfl, Lib.hid ⟨h0, h1, h2, h3, h4, fun _ => rfl, h6, h7, h8, h9, h10, h11, h12, h13, h14, h15, h16, h17⟩, HW⟩
            · rintro b a wy hb hd ⟨z11, z12, z33, z34, z35, z36, z37, z38, z39, z40, z41, z42, z43, z44, z45, z46, z47, z48, rfl, HV, HW⟩ K hK
              obtain ⟨h0, h1, h2, h3, h4, h5, h6, h7, h8, h9, h10, h11, h12, h13, h14, h15, h16, h17⟩ := HV.out
              simp [Region.binds] at hd
              obtain rfl := h2 (by simp [hd])
              obtain rfl := h5 (by simp [hd])
              clear hd
              go_simp
              exact hK _ _ ⟨_, _, _, _, _, _, _, _, _, _, _, _, _, _, _, _, _, _, rfl, Lib.hid ⟨h0, h1, h2, h3, h4, h5, fun _ => rfl, h7, h8, h9, h10, h11, h12, h13, h14, h15, h16, h17⟩, HW⟩
            · rintro b a wy hb hd ⟨z11, z12, z33, z34, z35, z36, z37, z38, z39, z40, z41, z42, z43, z44, z45, z46, z47, z48, rfl, HV, HW⟩ K hK
              obtain ⟨h0, h1, h2, h3, h4, h5, h6, h7, h8, h9, h10, h11, h12, h13, h14, h15, h16, h17⟩ := HV.out
              simp [Region.binds] at hd
              obtain rfl := h2 (by simp [hd])
              obtain rfl := h6 (by simp [hd])
              clear hd
              go_simp
              exact hK _ _ ⟨_, _, _, _, _, _, _, _, _, _, _, _, _, _, _, _, _, _, rfl, Lib.hid ⟨h0, h1, h2, h3, h4, h5, h6, fun _ => rfl, h8, h9, h10, h11, h12, h13, h14, h15, h16, h17⟩, HW⟩
            · rintro b a wy hb hd ⟨z11, z12, z33, z34, z35, z36, z37, z38, z39, z40, z41, z42, z43, z44, z45, z46, z47, z48, rfl, HV, HW⟩ K hK
              obtain ⟨h0, h1, h2, h3, h4, h5, h6, h7, h8, h9, h10, h11, h12, h13, h14, h15, h16, h17⟩ := HV.out
              clear hd
              go_simp
              exact hK _ _ ⟨_, _, _, _, _, _, _, _, _, _, _, _, _, _, _, _, _, _, rfl, Lib.hid ⟨h0, h1, h2, h3, h4, h5, h6, h7, fun _ => rfl, h9, h10, h11, h12, h13, h14, h15, h16, h17⟩, HW⟩
            · rintro b a wy hb hd ⟨z11, z12, z33, z34, z35, z36, z37, z38, z39, z40, z41, z42, z43, z44, z45, z46, z47, z48, rfl, HV, HW⟩ K hK
              obtain ⟨h0, h1, h2, h3, h4, h5, h6, h7, h8, h9, h10, h11, h12, h13, h14, h15, h16, h17⟩ := HV.out
              simp [Region.binds] at hd
              obtain rfl := h8 (by simp [hd])
              clear hd
              go_simp
              exact hK _ _ ⟨_, _, _, _, _, _, _, _, _, _, _, _, _, _, _, _, _, _, rfl, Lib.hid ⟨h0, h1, h2, h3, h4, h5, h6, h7, h8, fun _ => (by first | rfl | (rw [e10.out]; rfl) | simp [e10.out]), h10, h11, h12, h13, h14, h15, h16, h17⟩, HW⟩
            · rintro b a wy hb hd ⟨z11, z12, z33, z34, z35, z36, z37, z38, z39, z40, z41, z42, z43, z44, z45, z46, z47, z48, rfl, HV, HW⟩ K hK
              obtain ⟨h0, h1, h2, h3, h4, h5, h6, h7, h8, h9, h10, h11, h12, h13, h14, h15, h16, h17⟩ := HV.out
              simp [Region.binds] at hd
              obtain rfl := h9 (by simp [hd])
              clear hd
              go_simp
              exact hK _ _ ⟨_, _, _, _, _, _, _, _, _, _, _, _, _, _, _, _, _, _, rfl, Lib.hid ⟨h0, h1, h2, h3, h4, h5, h6, h7, h8, h9, fun _ => rfl, h11, h12, h13, h14, h15, h16, h17⟩, HW⟩
            · rintro b a wy hb hd ⟨z11, z12, z33, z34, z35, z36, z37, z38, z39, z40, z41, z42, z43, z44, z45, z46, z47, z48, rfl, HV, HW⟩ K hK
              obtain ⟨h0, h1, h2, h3, h4, h5, h6, h7, h8, h9, h10, h11, h12, h13, h14, h15, h16, h17⟩ := HV.out
              simp [Region.binds] at hd
              obtain rfl := h10 (by simp [hd])
              clear hd
              go_simp
              exact hK _ _ ⟨_, _, _, _, _, _, _, _, _, _, _, _, _, _, _, _, _, _, rfl, Lib.hid ⟨h0, h1, h2, h3, h4, h5, h6, h7, h8, h9, h10, fun _ => rfl, h12, h13, h14, h15, h16, h17⟩, HW⟩
            · rintro b a wy hb hd ⟨z11, z12, z33, z34, z35, z36, z37, z38, z39, z40, z41, z42, z43, z44, z45, z46, z47, z48, rfl, HV, HW⟩ K hK
              obtain ⟨h0, h1, h2, h3, h4, h5, h6, h7, h8, h9, h10, h11, h12, h13, h14, h15, h16, h17⟩ := HV.out
              simp [Region.binds] at hd
              obtain rfl := h10 (by simp [hd])
              clear hd
              go_simp
              exact hK _ _ ⟨_, _, _, _, _, _, _, _, _, _, _, _, _, _, _, _, _, _, rfl, Lib.hid ⟨h0, h1, h2, h3, h4, h5, h6, h7, h8, h9, h10, h11, fun _ => rfl, h13, h14, h15, h16, h17⟩, HW⟩
            · rintro b a wy hb hd ⟨z11, z12, z33, z34, z35, z36, z37, z38, z39, z40, z41, z42, z43, z44, z45, z46, z47, z48, rfl, HV, HW⟩ K hK
              obtain ⟨h0, h1, h2, h3, h4, h5, h6, h7, h8, h9, h10, h11, h12, h13, h14, h15, h16, h17⟩ := HV.out
              simp [Region.binds] at hd
              obtain rfl := h10 (by simp [hd])
              clear hd
              go_simp
              exact hK _ _ ⟨_, _, _, _, _, _, _, _, _, _, _, _, _, _, _, _, _, _, rfl, Lib.hid ⟨h0, h1, h2, h3, h4, h5, h6, h7, h8, h9, h10, h11, h12, fun _ => rfl, h14, h15, h16, h17⟩, HW⟩
            · rintro b a wy hb hd ⟨z11, z12, z33, z34, z35, z36, z37, z38, z39, z40, z41, z42, z43, z44, z45, z46, z47, z48, rfl, HV, HW⟩ K hK
              obtain ⟨h0, h1, h2, h3, h4, h5, h6, h7, h8, h9, h10, h11, h12, h13, h14, h15, h16, h17⟩ := HV.out
              simp [Region.binds] at hd
              obtain rfl := h10 (by simp [hd])
              clear hd
              go_simp
              exact hK _ _ ⟨_, _, _, _, _, _, _, _, _, _, _, _, _, _, _, _, _, _, rfl, Lib.hid ⟨h0, h1, h2, h3, h4, h5, h6, h7, h8, h9, h10, h11, h12, h13, fun _ => rfl, h15, h16, h17⟩, HW⟩
            · rintro b a wy hb hd ⟨z11, z12, z33, z34, z35, z36, z37, z38, z39, z40, z41, z42, z43, z44, z45, z46, z47, z48, rfl, HV, HW⟩ K hK
              obtain ⟨h0, h1, h2, h3, h4, h5, h6, h7, h8, h9, h10, h11, h12, h13, h14, h15, h16, h17⟩ := HV.out
              simp [Region.binds] at hd
              obtain rfl := h10 (by simp [hd])
              obtain rfl := h14 (by simp [hd])
              clear hd
              go_simp
              exact hK _ _ ⟨_, _, _, _, _, _, _, _, _, _, _, _, _, _, _, _, _, _, rfl, Lib.hid ⟨h0, h1, h2, h3, h4, h5, h6, h7, h8, h9, h10, h11, h12, h13, h14, fun _ => rfl, h16, h17⟩, HW⟩
            · rintro b a wy hb hd ⟨z11, z12, z33, z34, z35, z36, z37, z38, z39, z40, z41, z42, z43, z44, z45, z46, z47, z48, rfl, HV, HW⟩ K hK
              obtain ⟨h0, h1, h2, h3, h4, h5, h6, h7, h8, h9, h10, h11, h12, h13, h14, h15, h16, h17⟩ := HV.out
              simp [Region.binds] at hd
              obtain rfl := h7 (by simp [hd])
              clear hd
              go_simp
              exact hK _ _ ⟨_, _, _, _, _, _, _, _, _, _, _, _, _, _, _, _, _, _, rfl, Lib.hid ⟨h0, h1, h2, h3, h4, h5, h6, h7, h8, h9, h10, h11, h12, h13, h14, h15, fun _ => rfl, h17⟩, HW⟩
            · rintro b a wy hb hd ⟨z11, z12, z33, z34, z35, z36, z37, z38, z39, z40, z41, z42, z43, z44, z45, z46, z47, z48, rfl, HV, HW⟩ K hK
              obtain ⟨h0, h1, h2, h3, h4, h5, h6, h7, h8, h9, h10, h11, h12, h13, h14, h15, h16, h17⟩ := HV.out
              simp [Region.binds] at hd
              obtain rfl := h15 (by simp [hd])
              clear hd
              go_simp
              exact hK _ _ ⟨_, _, _, _, _, _, _, _, _, _, _, _, _, _, _, _, _, _, rfl, Lib.hid ⟨h0, h1, h2, h3, h4, h5, h6, h7, h8, h9, h10, h11, h12, h13, h14, h15, h16, fun _ => rfl⟩, HW⟩
          case doneP10 =>
            rintro b a wy hb ⟨z11, z12, z33, z34, z35, z36, z37, z38, z39, z40, z41, z42, z43, z44, z45, z46, z47, z48, rfl, HV, HW⟩
            obtain ⟨h0, h1, h2, h3, h4, h5, h6, h7, h8, h9, h10, h11, h12, h13, h14, h15, h16, h17⟩ := HV.out
            obtain rfl := h0 (hb 0)
            obtain rfl := h1 (hb 1)
            obtain rfl := h2 (hb 2)
            obtain rfl := h3 (hb 3)
            obtain rfl := h4 (hb 4)
            obtain rfl := h5 (hb 5)
            obtain rfl := h6 (hb 6)
            obtain rfl := h7 (hb 7)
            obtain rfl := h8 (hb 8)
            obtain rfl := h9 (hb 9)
            obtain rfl := h10 (hb 10)
            obtain rfl := h11 (hb 11)
            obtain rfl := h12 (hb 12)
            obtain rfl := h13 (hb 13)
            obtain rfl := h14 (hb 14)
            obtain rfl := h15 (hb 15)
            obtain rfl := h16 (hb 16)
            obtain rfl := h17 (hb 17)
            clear HV hb h0 h1 h2 h3 h4 h5 h6 h7 h8 h9 h10 h11 h12 h13 h14 h15 h16 h17
            have HWW := HW
            clear HW
            go_wp2_with fail
            go_meet
            exact ⟨_, _, rfl, rfl, Lib.hid (by simp only [beq_iff_eq]; exact ⟨fun q => ⟨fx, by omega⟩, fun q => by have := q.2; omega⟩), Lib.hid ⟨fun q => (by cases q), fun q => absurd q.1 fy⟩, HWW⟩
      · by_cases fy : Fit y
        · have e8 := Lib.hid (show enc0 x = 60 by unfold enc0; rw [if_neg fx])
          have e10 := Lib.hid (show enc0 y = 0 by unfold enc0; rw [if_pos fy])
          refine Inv2.wp_region_inv (fun b a wy => ∃ z11 z12 z33 z34 z35 z36 z37 z38 z39 z40 z41 z42 z43 z44 z45 z46 z47 z48, a = ⟨(List.toArray (Value.agg (scells s).toArray :: Value.agg (scells t).toArray :: Value.bool flag :: Value.pointer (some { block := w.heap.size, off := 0 }) :: Value.pointer (some { block := w.heap.size + 1, off := 0 }) :: undef :: Value.bool false :: Value.slice X n cc :: Value.int IntKind.i64 (enc0 x) :: Value.slice Y m d :: Value.int IntKind.i64 (enc0 y) :: z11 :: z12 :: undef :: undef :: undef :: u16 :: u17 :: u18 :: u19 :: u20 :: u21 :: u22 :: u23 :: u24 :: u25 :: u26 :: u27 :: u28 :: u29 :: u30 :: u31 :: u32 :: z33 :: z34 :: z35 :: z36 :: z37 :: z38 :: z39 :: z40 :: z41 :: z42 :: z43 :: z44 :: z45 :: z46 :: z47 :: z48 :: u49 :: u50 :: u51 :: u52 :: u53 :: u54 :: u55 :: u56 :: u57 :: u58 :: u59 :: u60 :: u61 :: u62 :: u63 :: u64 :: u65 :: u66 :: u67 :: u68 :: u69 :: u70 :: u71 :: u72 :: u73 :: u74 :: u75 :: u76 :: u77 :: u78 :: u79 :: u80 :: u81 :: u82 :: u83 :: u84 :: u85 :: u86 :: u87 :: u88 :: u89 :: u90 :: u91 :: u92 :: u93 :: u94 :: u95 :: u96 :: u97 :: u98 :: u99 :: u100 :: u101 :: u102 :: u103 :: u104 :: u105 :: u106 :: u107 :: u108 :: u109 :: u110 :: u111 :: u112 :: [])), []⟩ ∧ Hid ((b 0 = true → z33 = Value.int IntKind.i64 (enc0 x)) ∧ (b 1 = true → z34 = .bool false) ∧ (b 2 = true → z35 = .bool false) ∧ (b 3 = true → z36 = undef) ∧ (b 4 = true → z37 = undef) ∧ (b 5 = true → z38 = undef) ∧ (b 6 = true → z39 = undef) ∧ (b 7 = true → z40 = Value.bool false) ∧ (b 8 = true → z41 = Value.int IntKind.i64 (enc0 y)) ∧ (b 9 = true → z42 = .bool true) ∧ (b 10 = true → z43 = .bool true) ∧ (b 11 = true → z44 = .pointer (some ⟨w.heap.size + 1, 0, none⟩)) ∧ (b 12 = true → z45 = .int .u64 (nth y 0 : Int)) ∧ (b 13 = true → z46 = .int .u64 ((nth y 0 : Int) % 2)) ∧ (b 14 = true → z47 = .bool (((nth y 0 : Int) % 2) == 1)) ∧ (b 15 = true → z48 = .bool (((nth y 0 : Int) % 2) == 1)) ∧ (b 16 = true → z11 = Value.bool false) ∧ (b 17 = true → z12 = .bool (((nth y 0 : Int) % 2) == 1))) ∧ Hid (Below va.heap.size va wy)) (by kernel_rfl) (by kernel_rfl) ?startP01 ?stepsP01 ?doneP01
          case startP01 =>
            intro b hb
            refine ⟨undef, undef, u33, u34, u35, u36, u37, u38, u39, u40, u41, u42, u43, u44, u45, u46, u47, u48, rfl, Lib.hid ⟨?_, ?_, ?_, ?_, ?_, ?_, ?_, ?_, ?_, ?_, ?_, ?_, ?_, ?_, ?_, ?_, ?_, ?_⟩, Lib.hid ((show Still va va.drew from ⟨rfl, rfl, rfl, rfl⟩).below _)⟩
            all_goals (intro e; first | rfl | (rw [hb _ (by decide)] at e; cases e))
          case stepsP01 =>
            refine ⟨?_, ?_, ?_, ?_, ?_, ?_, ?_, ?_, ?_, ?_, ?_, ?_, ?_, ?_, ?_, ?_, ?_, ?_, trivial⟩
            · rintro b a wy hb hd ⟨z11, z12, z33, z34, z35, z36, z37, z38, z39, z40, z41, z42, z43, z44, z45, z46, z47, z48, rfl, HV, HW⟩ K hK
              obtain ⟨h0, h1, h2, h3, h4, h5, h6, h7, h8, h9, h10, h11, h12, h13, h14, h15, h16, h17⟩ := HV.out
              clear hd
              go_simp
              exact hK _ _ ⟨_, _, _, _, _, _, _, _, _, _, _, _, _, _, _, _, _, _, rfl, Lib.hid ⟨fun _ => rfl, h1, h2, h3, h4, h5, h6, h7, h8, h9, h10, h11, h12, h13, h14, h15, h16, h17⟩, HW⟩
            · rintro b a wy hb hd ⟨z11, z12, z33, z34, z35, z36, z37, z38, z39, z40, z41, z42, z43, z44, z45, z46, z47, z48, rfl, HV, HW⟩ K hK
              obtain ⟨h0, h1, h2, h3, h4, h5, h6, h7, h8, h9, h10, h11, h12, h13, h14, h15, h16, h17⟩ := HV.out
              simp [Region.binds] at hd
              obtain rfl := h0 (by simp [hd])
              clear hd
              go_simp
              exact hK _ _ ⟨_, _, _, _, _, _, _, _, _, _, _, _, _, _, _, _, _, _, rfl, Lib.hid ⟨h0, fun _ => (by first | rfl | (rw [e8.out]; rfl) | simp [e8.out]), h2, h3, h4, h5, h6, h7, h8, h9, h10, h11, h12, h13, h14, h15, h16, h17⟩, HW⟩
            · rintro b a wy hb hd ⟨z11, z12, z33, z34, z35, z36, z37, z38, z39, z40, z41, z42, z43, z44, z45, z46, z47, z48, rfl, HV, HW⟩ K hK
              obtain ⟨h0, h1, h2, h3, h4, h5, h6, h7, h8, h9, h10, h11, h12, h13, h14, h15, h16, h17⟩ := HV.out
              simp [Region.binds] at hd
              obtain rfl := h1 (by simp [hd])
              clear hd
              go_simp
              exact hK _ _ ⟨_, _, _, _, _, _, _, _, _, _, _, _, _, _, _, _, _, _, rfl, Lib.hid ⟨h0, h1, fun _ => rfl, h3, h4, h5, h6, h7, h8, h9, h10, h11, h12, h13, h14, h15, h16, h17⟩, HW⟩
            · rintro b a wy hb hd ⟨z11, z12, z33, z34, z35, z36, z37, z38, z39, z40, z41, z42, z43, z44, z45, z46, z47, z48, rfl, HV, HW⟩ K hK
              obtain ⟨h0, h1, h2, h3, h4, h5, h6, h7, h8, h9, h10, h11, h12, h13, h14, h15, h16, h17⟩ := HV.out
              simp [Region.binds] at hd
              obtain rfl := h2 (by simp [hd])
              clear hd
              go_simp
              exact hK _ _ ⟨_, _, _, _, _, _, _, _, _, _, _, _, _, _, _, _, _, _, rfl, Lib.hid ⟨h0, h1, h2, fun _ => rfl, h4, h5, h6, h7, h8, h9, h10, h11, h12, h13, h14, h15, h16, h17⟩, HW⟩
            · rintro b a wy hb hd ⟨z11, z12, z33, z34, z35, z36, z37, z38, z39, z40, z41, z42, z43, z44, z45, z46, z47, z48, rfl, HV, HW⟩ K hK
              obtain ⟨h0, h1, h2, h3, h4, h5, h6, h7, h8, h9, h10, h11, h12, h13, h14, h15, h16, h17⟩ := HV.out
              simp [Region.binds] at hd
              obtain rfl := h2 (by simp [hd])
              clear hd
              go_simp
              exact hK _ _ ⟨_, _, _, _, _, _, _, _, _, _, _, _, _, _, _, _, _, _, rfl, Lib.hid ⟨h0, h1, h2, h3, fun _ => rfl, h5, h6, h7, h8, h9, h10, h11, h12, h13, h14, h15, h16, h17⟩, HW⟩
            · rintro b a wy hb hd ⟨z11, z12, z33, z34, z35, z36, z37, z38, z39, z40, z41, z42, z43, z44, z45, z46, z47, z48, rfl, HV, HW⟩ K hK
              obtain ⟨h0, h1, h2, h3, h4, h5, h6, h7, h8, h9, h10, h11, h12, h13, h14, h15, h16, h17⟩ := HV.out
              simp [Region.binds] at hd
              obtain rfl := h2 (by simp [hd])
              clear hd
              go_simp
              exact hK _ _ ⟨_, _, _, _, _, _, _, _, _, _, _, _, _, _, _, _, _, _, rfl, Lib.hid ⟨h0, h1, h2, h3, h4, fun _ => rfl, h6, h7, h8, h9, h10, h11, h12, h13, h14, h15, h16, h17⟩, HW⟩
            · rintro b a wy hb hd ⟨z11, z12, z33, z34, z35, z36, z37, z38, z39, z40, z41, z42, z43, z44, z45, z46, z47, z48, rfl, HV, HW⟩ K hK
              obtain ⟨h0, h1, h2, h3, h4, h5, h6, h7, h8, h9, h10, h11, h12, h13, h14, h15, h16, h17⟩ := HV.out
              simp [Region.binds] at hd
              obtain rfl := h2 (by simp [hd])
              clear hd
              go_simp
              exact hK _ _ ⟨_, _, _, _, _, _, _, _, _, _, _, _, _, _, _, _, _, _, rfl, Lib.hid ⟨h0, h1, h2, h3, h4, h5, fun _ => rfl, h7, h8, h9, h10, h11, h12, h13, h14, h15, h16, h17⟩, HW⟩
            · rintro b a wy hb hd ⟨z11, z12, z33, z34, z35, z36, z37, z38, z39, z40, z41, z42, z43, z44, z45, z46, z47, z48, rfl, HV, HW⟩ K hK
              obtain ⟨h0, h1, h2, h3, h4, h5, h6, h7, h8, h9, h10, h11, h12, h13, h14, h15, h16, h17⟩ := HV.out
              simp [Region.binds] at hd
              obtain rfl := h2 (by simp [hd])
              obtain rfl := h6 (by simp [hd])
              clear hd
              go_simp
              exact hK _ _ ⟨_, _, _, _, _, _, _, _, _, _, _, _, _, _, _, _, _, _, rfl, Lib.hid ⟨h0, h1, h2, h3, h4, h5, h6, fun _ => rfl, h8, h9, h10, h11, h12, h13, h14, h15, h16, h17⟩, HW⟩
            · rintro b a wy hb hd ⟨z11, z12, z33, z34, z35, z36, z37, z38, z39, z40, z41, z42, z43, z44, z45, z46, z47, z48, rfl, HV, HW⟩ K hK
              obtain ⟨h0, h1, h2, h3, h4, h5, h6, h7, h8, h9, h10, h11, h12, h13, h14, h15, h16, h17⟩ := HV.out
              clear hd
              go_simp
              exact hK _ _ ⟨_, _, _, _, _, _, _, _, _, _, _, _, _, _, _, _, _, _, rfl, Lib.hid ⟨h0, h1, h2, h3, h4, h5, h6, h7, fun _ => rfl, h9, h10, h11, h12, h13, h14, h15, h16, h17⟩, HW⟩
            · rintro b a wy hb hd ⟨z11, z12, z33, z34, z35, z36, z37, z38, z39, z40, z41, z42, z43, z44, z45, z46, z47, z48, rfl, HV, HW⟩ K hK
              obtain ⟨h0, h1, h2, h3, h4, h5, h6, h7, h8, h9, h10, h11, h12, h13, h14, h15, h16, h17⟩ := HV.out
              simp [Region.binds] at hd
              obtain rfl := h8 (by simp [hd])
              clear hd
              go_simp
              exact hK _ _ ⟨_, _, _, _, _, _, _, _, _, _, _, _, _, _, _, _, _, _, rfl, Lib.hid ⟨h0, h1, h2, h3, h4, h5, h6, h7, h8, fun _ => (by first | rfl | (rw [e10.out]; rfl) | simp [e10.out]), h10, h11, h12, h13, h14, h15, h16, h17⟩, HW⟩
            · rintro b a wy hb hd ⟨z11, z12, z33, z34, z35, z36, z37, z38, z39, z40, z41, z42, z43, z44, z45, z46, z47, z48, rfl, HV, HW⟩ K hK
              obtain ⟨h0, h1, h2, h3, h4, h5, h6, h7, h8, h9, h10, h11, h12, h13, h14, h15, h16, h17⟩ := HV.out
              simp [Region.binds] at hd
              obtain rfl := h9 (by simp [hd])
              clear hd
              go_simp
              exact hK _ _ ⟨_, _, _, _, _, _, _, _, _, _, _, _, _, _, _, _, _, _, rfl, Lib.hid ⟨h0, h1, h2, h3, h4, h5, h6, h7, h8, h9, fun _ => rfl, h11, h12, h13, h14, h15, h16, h17⟩, HW⟩
            · rintro b a wy hb hd ⟨z11, z12, z33, z34, z35, z36, z37, z38, z39, z40, z41, z42, z43, z44, z45, z46, z47, z48, rfl, HV, HW⟩ K hK
              obtain ⟨h0, h1, h2, h3, h4, h5, h6, h7, h8, h9, h10, h11, h12, h13, h14, h15, h16, h17⟩ := HV.out
              simp [Region.binds] at hd
              obtain rfl := h10 (by simp [hd])
              clear hd
              go_simp
              exact hK _ _ ⟨_, _, _, _, _, _, _, _, _, _, _, _, _, _, _, _, _, _, rfl, Lib.hid ⟨h0, h1, h2, h3, h4, h5, h6, h7, h8, h9, h10, fun _ => rfl, h12, h13, h14, h15, h16, h17⟩, HW⟩
            · rintro b a wy hb hd ⟨z11, z12, z33, z34, z35, z36, z37, z38, z39, z40, z41, z42, z43, z44, z45, z46, z47, z48, rfl, HV, HW⟩ K hK
              obtain ⟨h0, h1, h2, h3, h4, h5, h6, h7, h8, h9, h10, h11, h12, h13, h14, h15, h16, h17⟩ := HV.out
              simp [Region.binds] at hd
              obtain rfl := h10 (by simp [hd])
              obtain rfl := h11 (by simp [hd])
              clear hd
              have hc := (HRY.out.below HRY.out.lt HW.out).cellAt (scells_at y 0 (by decide))
              rw [scell_wide _ _ (.inl rfl)] at hc
              go_simp
              exact hK _ _ ⟨_, _, _, _, _, _, _, _, _, _, _, _, _, _, _, _, _, _, rfl, Lib.hid ⟨h0, h1, h2, h3, h4, h5, h6, h7, h8, h9, h10, h11, fun _ => rfl, h13, h14, h15, h16, h17⟩, HW⟩
            · rintro b a wy hb hd ⟨z11, z12, z33, z34, z35, z36, z37, z38, z39, z40, z41, z42, z43, z44, z45, z46, z47, z48, rfl, HV, HW⟩ K hK
              obtain ⟨h0, h1, h2, h3, h4, h5, h6, h7, h8, h9, h10, h11, h12, h13, h14, h15, h16, h17⟩ := HV.out
              simp [Region.binds] at hd
              obtain rfl := h10 (by simp [hd])
              obtain rfl := h12 (by simp [hd])
              clear hd
              go_simp
              exact hK _ _ ⟨_, _, _, _, _, _, _, _, _, _, _, _, _, _, _, _, _, _, rfl, Lib.hid ⟨h0, h1, h2, h3, h4, h5, h6, h7, h8, h9, h10, h11, h12, fun _ => rfl, h14, h15, h16, h17⟩, HW⟩
            · rintro b a wy hb hd ⟨z11, z12, z33, z34, z35, z36, z37, z38, z39, z40, z41, z42, z43, z44, z45, z46, z47, z48, rfl, HV, HW⟩ K hK
              obtain ⟨h0, h1, h2, h3, h4, h5, h6, h7, h8, h9, h10, h11, h12, h13, h14, h15, h16, h17⟩ := HV.out
              simp [Region.binds] at hd
              obtain rfl := h10 (by simp [hd])
              obtain rfl := h13 (by simp [hd])
              clear hd
              go_simp
              exact hK _ _ ⟨_, _, _, _, _, _, _, _, _, _, _, _, _, _, _, _, _, _, rfl, Lib.hid ⟨h0, h1, h2, h3, h4, h5, h6, h7, h8, h9, h10, h11, h12, h13, fun _ => rfl, h15, h16, h17⟩, HW⟩
            · rintro b a wy hb hd ⟨z11, z12, z33, z34, z35, z36, z37, z38, z39, z40, z41, z42, z43, z44, z45, z46, z47, z48, rfl, HV, HW⟩ K hK
              obtain ⟨h0, h1, h2, h3, h4, h5, h6, h7, h8, h9, h10, h11, h12, h13, h14, h15, h16, h17⟩ := HV.out
              simp [Region.binds] at hd
              obtain rfl := h10 (by simp [hd])
              obtain rfl := h14 (by simp [hd])
              clear hd
              go_simp
              exact hK _ _ ⟨_, _, _, _, _, _, _, _, _, _, _, _, _, _, _, _, _, _, rfl, Lib.hid ⟨h0, h1, h2, h3, h4, h5, h6, h7, h8, h9, h10, h11, h12, h13, h14, fun _ => rfl, h16, h17⟩, HW⟩
            · rintro b a wy hb hd ⟨z11, z12, z33, z34, z35, z36, z37, z38, z39, z40, z41, z42, z43, z44, z45, z46, z47, z48, rfl, HV, HW⟩ K hK
              obtain ⟨h0, h1, h2, h3, h4, h5, h6, h7, h8, h9, h10, h11, h12, h13, h14, h15, h16, h17⟩ := HV.out
              simp [Region.binds] at hd
              obtain rfl := h7 (by simp [hd])
              clear hd
              go_simp
              exact hK _ _ ⟨_, _, _, _, _, _, _, _, _, _, _, _, _, _, _, _, _, _, rfl, Lib.hid ⟨h0, h1, h2, h3, h4, h5, h6, h7, h8, h9, h10, h11, h12, h13, h14, h15, fun _ => rfl, h17⟩, HW⟩
            · rintro b a wy hb hd ⟨z11, z12, z33, z34, z35, z36, z37, z38, z39, z40, z41, z42, z43, z44, z45, z46, z47, z48, rfl, HV, HW⟩ K hK
              obtain ⟨h0, h1, h2, h3, h4, h5, h6, h7, h8, h9, h10, h11, h12, h13, h14, h15, h16, h17⟩ := HV.out
              simp [Region.binds] at hd
              obtain rfl := h15 (by simp [hd])
              clear hd
              go_simp
              exact hK _ _ ⟨_, _, _, _, _, _, _, _, _, _, _, _, _, _, _, _, _, _, rfl, Lib.hid ⟨h0, h1, h2, h3, h4, h5, h6, h7, h8, h9, h10, h11, h12, h13, h14, h15, h16, fun _ => rfl⟩, HW⟩
          case doneP01 =>
            rintro b a wy hb ⟨z11, z12, z33, z34, z35, z36, z37, z38, z39, z40, z41, z42, z43, z44, z45, z46, z47, z48, rfl, HV, HW⟩
            obtain ⟨h0, h1, h2, h3, h4, h5, h6, h7, h8, h9, h10, h11, h12, h13, h14, h15, h16, h17⟩ := HV.out
            obtain rfl := h0 (hb 0)
            obtain rfl := h1 (hb 1)
            obtain rfl := h2 (hb 2)
            obtain rfl := h3 (hb 3)
            obtain rfl := h4 (hb 4)
            obtain rfl := h5 (hb 5)
            obtain rfl := h6 (hb 6)
            obtain rfl := h7 (hb 7)
            obtain rfl := h8 (hb 8)
            obtain rfl := h9 (hb 9)
            obtain rfl := h10 (hb 10)
            obtain rfl := h11 (hb 11)
            obtain rfl := h12 (hb 12)
            obtain rfl := h13 (hb 13)
            obtain rfl := h14 (hb 14)
            obtain rfl := h15 (hb 15)
            obtain rfl := h16 (hb 16)
            obtain rfl := h17 (hb 17)
            clear HV hb h0 h1 h2 h3 h4 h5 h6 h7 h8 h9 h10 h11 h12 h13 h14 h15 h16 h17
            have HWW := HW
            clear HW
            go_wp2_with fail
            go_meet
            exact ⟨_, _, rfl, rfl, Lib.hid ⟨fun q => (by cases q), fun q => absurd q.1 fx⟩, Lib.hid (by simp only [beq_iff_eq]; exact ⟨fun q => ⟨fy, by omega⟩, fun q => by have := q.2; omega⟩), HWW⟩
        · have e8 := Lib.hid (show enc0 x = 60 by unfold enc0; rw [if_neg fx])
          have e10 := Lib.hid (show enc0 y = 60 by unfold enc0; rw [if_neg fy])
          refine Inv2.wp_region_inv (fun b a wy => ∃ z11 z12 z33 z34 z35 z36 z37 z38 z39 z40 z41 z42 z43 z44 z45 z46 z47 z48, a = ⟨(List.toArray (Value.agg (scells s).toArray :: Value.agg (scells t).toArray :: Value.bool flag :: Value.pointer (some { block := w.heap.size, off := 0 }) :: Value.pointer (some { block := w.heap.size + 1, off := 0 }) :: undef :: Value.bool false :: Value.slice X n cc :: Value.int IntKind.i64 (enc0 x) :: Value.slice Y m d :: Value.int IntKind.i64 (enc0 y) :: z11 :: z12 :: undef :: undef :: undef :: u16 :: u17 :: u18 :: u19 :: u20 :: u21 :: u22 :: u23 :: u24 :: u25 :: u26 :: u27 :: u28 :: u29 :: u30 :: u31 :: u32 :: z33 :: z34 :: z35 :: z36 :: z37 :: z38 :: z39 :: z40 :: z41 :: z42 :: z43 :: z44 :: z45 :: z46 :: z47 :: z48 :: u49 :: u50 :: u51 :: u52 :: u53 :: u54 :: u55 :: u56 :: u57 :: u58 :: u59 :: u60 :: u61 :: u62 :: u63 :: u64 :: u65 :: u66 :: u67 :: u68 :: u69 :: u70 :: u71 :: u72 :: u73 :: u74 :: u75 :: u76 :: u77 :: u78 :: u79 :: u80 :: u81 :: u82 :: u83 :: u84 :: u85 :: u86 :: u87 :: u88 :: u89 :: u90 :: u91 :: u92 :: u93 :: u94 :: u95 :: u96 :: u97 :: u98 :: u99 :: u100 :: u101 :: u102 :: u103 :: u104 :: u105 :: u106 :: u107 :: u108 :: u109 :: u110 :: u111 :: u112 :: [])), []⟩ ∧ Hid ((b 0 = true → z33 = Value.int IntKind.i64 (enc0 x)) ∧ (b 1 = true → z34 = .bool false) ∧ (b 2 = true → z35 = .bool false) ∧ (b 3 = true → z36 = undef) ∧ (b 4 = true → z37 = undef) ∧ (b 5 = true → z38 = undef) ∧ (b 6 = true → z39 = undef) ∧ (b 7 = true → z40 = Value.bool false) ∧ (b 8 = true → z41 = Value.int IntKind.i64 (enc0 y)) ∧ (b 9 = true → z42 = .bool false) ∧ (b 10 = true → z43 = .bool false) ∧ (b 11 = true → z44 = undef) ∧ (b 12 = true → z45 = undef) ∧ (b 13 = true → z46 = undef) ∧ (b 14 = true → z47 = undef) ∧ (b 15 = true → z48 = Value.bool false) ∧ (b 16 = true → z11 = Value.bool false) ∧ (b 17 = true → z12 = Value.bool false)) ∧ Hid (Below va.heap.size va wy)) (by kernel_rfl) (by kernel_rfl) ?startP00 ?stepsP00 ?doneP00
          case startP00 =>
            intro b hb
            refine ⟨undef, undef, u33, u34, u35, u36, u37, u38, u39, u40, u41, u42, u43, u44, u45, u46, u47, u48, rfl, Lib.hid ⟨?_, ?_, ?_, ?_, ?_, ?_, ?_, ?_, ?_, ?_, ?_, ?_, ?_, ?_, ?_, ?_, ?_, ?_⟩, Lib.hid ((show Still va va.drew from ⟨rfl, rfl, rfl, rfl⟩).below _)⟩
            all_goals (intro e; first | rfl | (rw [hb _ (by decide)] at e; cases e))
          case stepsP00 =>
            refine ⟨?_, ?_, ?_, ?_, ?_, ?_, ?_, ?_, ?_, ?_, ?_, ?_, ?_, ?_, ?_, ?_, ?_, ?_, trivial⟩
            · rintro b a wy hb hd ⟨z11, z12, z33, z34, z35, z36, z37, z38, z39, z40, z41, z42, z43, z44, z45, z46, z47, z48, rfl, HV, HW⟩ K hK
              obtain ⟨h0, h1, h2, h3, h4, h5, h6, h7, h8, h9, h10, h11, h12, h13, h14, h15, h16, h17⟩ := HV.out
              clear hd
              go_simp
              exact hK _ _ ⟨_, _, _, _, _, _, _, _, _, _, _, _, _, _, _, _, _, _, rfl, Lib.hid ⟨fun _ => rfl, h1, h2, h3, h4, h5, h6, h7, h8, h9, h10, h11, h12, h13, h14, h15, h16, h17⟩, HW⟩
            · rintro b a wy hb hd ⟨z11, z12, z33, z34, z35, z36, z37, z38, z39, z40, z41, z42, z43, z44, z45, z46, z47, z48, rfl, HV, HW⟩ K hK
              obtain ⟨h0, h1, h2, h3, h4, h5, h6, h7, h8, h9, h10, h11, h12, h13, h14, h15, h16, h17⟩ := HV.out
              simp [Region.binds] at hd
              obtain rfl := h0 (by simp [hd])
              clear hd
              go_simp
              exact hK _ _ ⟨_, _, _, _, _, _, _, _, _, _, _, _, _, _, _, _, _, _, rfl, Lib.hid ⟨h0, fun _ => (by first | rfl | (rw [e8.out]; rfl) | simp [e8.out]), h2, h3, h4, h5, h6, h7, h8, h9, h10, h11, h12, h13, h14, h15, h16, h17⟩, HW⟩
            · rintro b a wy hb hd ⟨z11, z12, z33, z34, z35, z36, z37, z38, z39, z40, z41, z42, z43, z44, z45, z46, z47, z48, rfl, HV, HW⟩ K hK
              obtain ⟨h0, h1, h2, h3, h4, h5, h6, h7, h8, h9, h10, h11, h12, h13, h14, h15, h16, h17⟩ := HV.out
              simp [Region.binds] at hd
              obtain rfl := h1 (by simp [hd])
              clear hd
              go_simp
              exact hK _ _ ⟨_, _, _, _, _, _, _, _, _, _, _, _, _, _, _, _, _, _, rfl, Lib.hid ⟨h0, h1, fun _ => rfl, h3, h4, h5, h6, h7, h8, h9, h10, h11, h12, h13, h14, h15, h16, h17⟩, HW⟩
            · rintro b a wy hb hd ⟨z11, z12, z33, z34, z35, z36, z37, z38, z39, z40, z41, z42, z43, z44, z45, z46, z47, z48, rfl, HV, HW⟩ K hK
              obtain ⟨h0, h1, h2, h3, h4, h5, h6, h7, h8, h9, h10, h11, h12, h13, h14, h15, h16, h17⟩ := HV.out
              simp [Region.binds] at hd
              obtain rfl := h2 (by simp [hd])
              clear hd
              go_simp
              exact hK _ _ ⟨_, _, _, _, _, _, _, _, _, _, _, _, _, _, _, _, _, _, rfl, Lib.hid ⟨h0, h1, h2, fun _ => rfl, h4, h5, h6, h7, h8, h9, h10, h11, h12, h13, h14, h15, h16, h17⟩, HW⟩
            · rintro b a wy hb hd ⟨z11, z12, z33, z34, z35, z36, z37, z38, z39, z40, z41, z42, z43, z44, z45, z46, z47, z48, rfl, HV, HW⟩ K hK
              obtain ⟨h0, h1, h2, h3, h4, h5, h6, h7, h8, h9, h10, h11, h12, h13, h14, h15, h16, h17⟩ := HV.out
              simp [Region.binds] at hd
              obtain rfl := h2 (by simp [hd])
              clear hd
              go_simp
              exact hK _ _ ⟨_, _, _, _, _, _, _, _, _, _, _, _, _, _, _, _, _, _, rfl, Lib.hid ⟨h0, h1, h2, h3, fun _ => rfl, h5, h6, h7, h8, h9, h10, h11, h12, h13, h14, h15, h16, h17⟩, HW⟩
            · rintro b a wy hb hd ⟨z11, z12, z33, z34, z35, z36, z37, z38, z39, z40, z41, z42, z43, z44, z45, z46, z47, z48, rfl, HV, HW⟩ K hK
              obtain ⟨h0, h1, h2, h3, h4, h5, h6, h7, h8, h9, h10, h11, h12, h13, h14, h15, h16, h17⟩ := HV.out
              simp [Region.binds] at hd
              obtain rfl := h2 (by simp [hd])
              clear hd
              go_simp
              exact hK _ _ ⟨_, _, _, _, _, _, _, _, _, _, _, _, _, _, _, _, _, _, rfl, Lib.hid ⟨h0, h1, h2, h3, h4, fun _ => rfl, h6, h7, h8, h9, h10, h11, h12, h13, h14, h15, h16, h17⟩, HW⟩
            · rintro b a wy hb hd ⟨z11, z12, z33, z34, z35, z36, z37, z38, z39, z40, z41, z42, z43, z44, z45, z46, z47, z48, rfl, HV, HW⟩ K hK
              obtain ⟨h0, h1, h2, h3, h4, h5, h6, h7, h8, h9, h10, h11, h12, h13, h14, h15, h16, h17⟩ := HV.out
              simp [Region.binds] at hd
              obtain rfl := h2 (by simp [hd])
              clear hd
              go_simp
              exact hK _ _ ⟨_, _, _, _, _, _, _, _, _, _, _, _, _, _, _, _, _, _, rfl, Lib.hid ⟨h0, h1, h2, h3, h4, h5, fun _ => rfl, h7, h8, h9, h10, h11, h12, h13, h14, h15, h16, h17⟩, HW⟩
            · rintro b a wy hb hd ⟨z11, z12, z33, z34, z35, z36, z37, z38, z39, z40, z41, z42, z43, z44, z45, z46, z47, z48, rfl, HV, HW⟩ K hK
              obtain ⟨h0, h1, h2, h3, h4, h5, h6, h7, h8, h9, h10, h11, h12, h13, h14, h15, h16, h17⟩ := HV.out
              simp [Region.binds] at hd
              obtain rfl := h2 (by simp [hd])
              obtain rfl := h6 (by simp [hd])
              clear hd
              go_simp
              exact hK _ _ ⟨_, _, _, _, _, _, _, _, _, _, _, _, _, _, _, _, _, _, rfl, Lib.hid ⟨h0, h1, h2, h3, h4, h5, h6, fun _ => rfl, h8, h9, h10, h11, h12, h13, h14, h15, h16, h17⟩, HW⟩
            · rintro b a wy hb hd ⟨z11, z12, z33, z34, z35, z36, z37, z38, z39, z40, z41, z42, z43, z44, z45, z46, z47, z48, rfl, HV, HW⟩ K hK
              obtain ⟨h0, h1, h2, h3, h4, h5, h6, h7, h8, h9, h10, h11, h12, h13, h14, h15, h16, h17⟩ := HV.out
              clear hd
              go_simp
              exact hK _ _ ⟨_, _, _, _, _, _, _, _, _, _, _, _, _, _, _, _, _, _, rfl, Lib.hid ⟨h0, h1, h2, h3, h4, h5, h6, h7, fun _ => rfl, h9, h10, h11, h12, h13, h14, h15, h16, h17⟩, HW⟩
            · rintro b a wy hb hd ⟨z11, z12, z33, z34, z35, z36, z37, z38, z39, z40, z41, z42, z43, z44, z45, z46, z47, z48, rfl, HV, HW⟩ K hK
              obtain ⟨h0, h1, h2, h3, h4, h5, h6, h7, h8, h9, h10, h11, h12, h13, h14, h15, h16, h17⟩ := HV.out
              simp [Region.binds] at hd
              obtain rfl := h8 (by simp [hd])
              clear hd
              go_simp
              exact hK _ _ ⟨_, _, _, _, _, _, _, _, _, _, _, _, _, _, _, _, _, _, rfl, Lib.hid ⟨h0, h1, h2, h3, h4, h5, h6, h7, h8, fun _ => (by first | rfl | (rw [e10.out]; rfl) | simp [e10.out]), h10, h11, h12, h13, h14, h15, h16, h17⟩, HW⟩
            · rintro b a wy hb hd ⟨z11, z12, z33, z34, z35, z36, z37, z38, z39, z40, z41, z42, z43, z44, z45, z46, z47, z48, rfl, HV, HW⟩ K hK
              obtain ⟨h0, h1, h2, h3, h4, h5, h6, h7, h8, h9, h10, h11, h12, h13, h14, h15, h16, h17⟩ := HV.out
              simp [Region.binds] at hd
              obtain rfl := h9 (by simp [hd])
              clear hd
              go_simp
              exact hK _ _ ⟨_, _, _, _, _, _, _, _, _, _, _, _, _, _, _, _, _, _, rfl, Lib.hid ⟨h0, h1, h2, h3, h4, h5, h6, h7, h8, h9, fun _ => rfl, h11, h12, h13, h14, h15, h16, h17⟩, HW⟩
            · rintro b a wy hb hd ⟨z11, z12, z33, z34, z35, z36, z37, z38, z39, z40, z41, z42, z43, z44, z45, z46, z47, z48, rfl, HV, HW⟩ K hK
              obtain ⟨h0, h1, h2, h3, h4, h5, h6, h7, h8, h9, h10, h11, h12, h13, h14, h15, h16, h17⟩ := HV.out
              simp [Region.binds] at hd
              obtain rfl := h10 (by simp [hd])
              clear hd
              go_simp
              exact hK _ _ ⟨_, _, _, _, _, _, _, _, _, _, _, _, _, _, _, _, _, _, rfl, Lib.hid ⟨h0, h1, h2, h3, h4, h5, h6, h7, h8, h9, h10, fun _ => rfl, h12, h13, h14, h15, h16, h17⟩, HW⟩
            · rintro b a wy hb hd ⟨z11, z12, z33, z34, z35, z36, z37, z38, z39, z40, z41, z42, z43, z44, z45, z46, z47, z48, rfl, HV, HW⟩ K hK
              obtain ⟨h0, h1, h2, h3, h4, h5, h6, h7, h8, h9, h10, h11, h12, h13, h14, h15, h16, h17⟩ := HV.out
              simp [Region.binds] at hd
              obtain rfl := h10 (by simp [hd])
              clear hd
              go_simp
              exact hK _ _ ⟨_, _, _, _, _, _, _, _, _, _, _, _, _, _, _, _, _, _, rfl, Lib.hid ⟨h0, h1, h2, h3, h4, h5, h6, h7, h8, h9, h10, h11, fun _ => rfl, h13, h14, h15, h16, h17⟩, HW⟩
            · rintro b a wy hb hd ⟨z11, z12, z33, z34, z35, z36, z37, z38, z39, z40, z41, z42, z43, z44, z45, z46, z47, z48, rfl, HV, HW⟩ K hK
              obtain ⟨h0, h1, h2, h3, h4, h5, h6, h7, h8, h9, h10, h11, h12, h13, h14, h15, h16, h17⟩ := HV.out
              simp [Region.binds] at hd
              obtain rfl := h10 (by simp [hd])
              clear hd
              go_simp
              exact hK _ _ ⟨_, _, _, _, _, _, _, _, _, _, _, _, _, _, _, _, _, _, rfl, Lib.hid ⟨h0, h1, h2, h3, h4, h5, h6, h7, h8, h9, h10, h11, h12, fun _ => rfl, h14, h15, h16, h17⟩, HW⟩
            · rintro b a wy hb hd ⟨z11, z12, z33, z34, z35, z36, z37, z38, z39, z40, z41, z42, z43, z44, z45, z46, z47, z48, rfl, HV, HW⟩ K hK
              obtain ⟨h0, h1, h2, h3, h4, h5, h6, h7, h8, h9, h10, h11, h12, h13, h14, h15, h16, h17⟩ := HV.out
              simp [Region.binds] at hd
              obtain rfl := h10 (by simp [hd])
              clear hd
              go_simp
              exact hK _ _ ⟨_, _, _, _, _, _, _, _, _, _, _, _, _, _, _, _, _, _, rfl, Lib.hid ⟨h0, h1, h2, h3, h4, h5, h6, h7, h8, h9, h10, h11, h12, h13, fun _ => rfl, h15, h16, h17⟩, HW⟩
            · rintro b a wy hb hd ⟨z11, z12, z33, z34, z35, z36, z37, z38, z39, z40, z41, z42, z43, z44, z45, z46, z47, z48, rfl, HV, HW⟩ K hK
              obtain ⟨h0, h1, h2, h3, h4, h5, h6, h7, h8, h9, h10, h11, h12, h13, h14, h15, h16, h17⟩ := HV.out
              simp [Region.binds] at hd
              obtain rfl := h10 (by simp [hd])
              obtain rfl := h14 (by simp [hd])
              clear hd
              go_simp
              exact hK _ _ ⟨_, _, _, _, _, _, _, _, _, _, _, _, _, _, _, _, _, _, rfl, Lib.hid ⟨h0, h1, h2, h3, h4, h5, h6, h7, h8, h9, h10, h11, h12, h13, h14, fun _ => rfl, h16, h17⟩, HW⟩
            · rintro b a wy hb hd ⟨z11, z12, z33, z34, z35, z36, z37, z38, z39, z40, z41, z42, z43, z44, z45, z46, z47, z48, rfl, HV, HW⟩ K hK
              obtain ⟨h0, h1, h2, h3, h4, h5, h6, h7, h8, h9, h10, h11, h12, h13, h14, h15, h16, h17⟩ := HV.out
              simp [Region.binds] at hd
              obtain rfl := h7 (by simp [hd])
              clear hd
              go_simp
              exact hK _ _ ⟨_, _, _, _, _, _, _, _, _, _, _, _, _, _, _, _, _, _, rfl, Lib.hid ⟨h0, h1, h2, h3, h4, h5, h6, h7, h8, h9, h10, h11, h12, h13, h14, h15, fun _ => rfl, h17⟩, HW⟩
            · rintro b a wy hb hd ⟨z11, z12, z33, z34, z35, z36, z37, z38, z39, z40, z41, z42, z43, z44, z45, z46, z47, z48, rfl, HV, HW⟩ K hK
              obtain ⟨h0, h1, h2, h3, h4, h5, h6, h7, h8, h9, h10, h11, h12, h13, h14, h15, h16, h17⟩ := HV.out
              simp [Region.binds] at hd
              obtain rfl := h15 (by simp [hd])
              clear hd
              go_simp
              exact hK _ _ ⟨_, _, _, _, _, _, _, _, _, _, _, _, _, _, _, _, _, _, rfl, Lib.hid ⟨h0, h1, h2, h3, h4, h5, h6, h7, h8, h9, h10, h11, h12, h13, h14, h15, h16, fun _ => rfl⟩, HW⟩
          case doneP00 =>
            rintro b a wy hb ⟨z11, z12, z33, z34, z35, z36, z37, z38, z39, z40, z41, z42, z43, z44, z45, z46, z47, z48, rfl, HV, HW⟩
            obtain ⟨h0, h1, h2, h3, h4, h5, h6, h7, h8, h9, h10, h11, h12, h13, h14, h15, h16, h17⟩ := HV.out
            obtain rfl := h0 (hb 0)
            obtain rfl := h1 (hb 1)
            obtain rfl := h2 (hb 2)
            obtain rfl := h3 (hb 3)
            obtain rfl := h4 (hb 4)
            obtain rfl := h5 (hb 5)
            obtain rfl := h6 (hb 6)
            obtain rfl := h7 (hb 7)
            obtain rfl := h8 (hb 8)
            obtain rfl := h9 (hb 9)
            obtain rfl := h10 (hb 10)
            obtain rfl := h11 (hb 11)
            obtain rfl := h12 (hb 12)
            obtain rfl := h13 (hb 13)
            obtain rfl := h14 (hb 14)
            obtain rfl := h15 (hb 15)
            obtain rfl := h16 (hb 16)
            obtain rfl := h17 (hb 17)
            clear HV hb h0 h1 h2 h3 h4 h5 h6 h7 h8 h9 h10 h11 h12 h13 h14 h15 h16 h17
            have HWW := HW
            clear HW
            go_wp2_with fail
            go_meet
            exact ⟨_, _, rfl, rfl, Lib.hid ⟨fun q => (by cases q), fun q => absurd q.1 fx⟩, Lib.hid ⟨fun q => (by cases q), fun q => absurd q.1 fy⟩, HWW⟩
    case rest =>
      obtain ⟨F1, F2, rfl, rfl, HF1, HF2, kk⟩ := hcut
      obtain ⟨vb, hvb⟩ : ∃ q, q = wc := ⟨_, rfl⟩
      subst hvb
      have kk := kk.out
      replace HRX := Lib.hid (HRX.out.below HRX.out.lt kk)
      replace HRY := Lib.hid (HRY.out.below HRY.out.lt kk)
      replace HPX := Lib.hid (HPX.out.below kk)
      replace HPY := Lib.hid (HPY.out.below kk)
      replace HB := Lib.hid (HB.out.trans (kk.mono HB.out.size))
      clear kk
      cases F1 with
      | false =>
        cases F2 with
        | false =>
          go_wp2_with fail
          refine (pick_bts HPX.out HPY.out (pick_none (fun q => by have := HF1.out.2 ((counts_enc HOX.out 0).1 q); cases this) (fun q => by have := HF2.out.2 ((counts_enc HOY.out 1).1 q); cases this))).mono ?_
          rintro e v21 ⟨rfl, kk⟩
          replace HRX := Lib.hid (HRX.out.below HRX.out.lt kk)
          replace HRY := Lib.hid (HRY.out.below HRY.out.lt kk)
          replace HPX := Lib.hid (HPX.out.below kk)
          replace HPY := Lib.hid (HPY.out.below kk)
          replace HB := Lib.hid (HB.out.trans (kk.mono HB.out.size))
          clear kk
          have hst := run_storeCells_new (P := Try.prog) v21 27 #[(.int .u64 0), (.int .u32 0), (.int .u32 0), (.int .u32 0), (.int .u32 0), (.int .u32 0), (.int .u32 0), (.int .u32 0), (.int .u32 0), (.int .u32 0), (.int .u64 0), (.int .u64 0), (.int .u64 0), (.int .u64 0), (.int .u64 0), (.int .u64 0), (.int .u64 0), (.int .u64 0)] (scells zero18).toArray (size_scells _) (by simp [length_scells]) (one_scells _)
          have hlc := length_scells zero18
          go_upto_region 7 with (fail)
          clear hst hlc
          have HX := Lib.hid (alloc_rowV v21 27 (scells zero18))
          have kk := (Below.refl v21.heap.size v21).alloc (Nat.le_refl _) (.cells (scells zero18).toArray 27)
          replace HRX := Lib.hid (HRX.out.below HRX.out.lt kk)
          replace HRY := Lib.hid (HRY.out.below HRY.out.lt kk)
          replace HPX := Lib.hid (HPX.out.below kk)
          replace HPY := Lib.hid (HPY.out.below kk)
          replace HB := Lib.hid (HB.out.trans (kk.mono HB.out.size))
          clear kk
          generalize v21.alloc (.cells (scells zero18).toArray 27) = v22 at *
          generalize v21.heap.size = x13 at *
          have q1 : (zero18 == zero18) = true := by simp
          have c13 := HX.out.cellAt (scells_at zero18 0 (by decide))
          have c3 := HRX.out.cellAt (scells_at x 0 (by decide))
          have c4 := HRY.out.cellAt (scells_at y 0 (by decide))
          rw [scell_wide _ _ (.inl rfl)] at c13 c3 c4
          have hgx := HOX.out.lt 0
          have hgy := HOY.out.lt 0
          go_wp2_with (first | (refine wpList_load_row_g (by rfl) 27 (.tmp 13) rfl x13 rfl _ (scells zero18).toArray _ _ HX.out Try.underlying27 rfl (size_scells _) ?_) | (refine wpList_load_row_g (by rfl) 27 (.tmp 3) rfl w.heap.size rfl _ (scells x).toArray _ _ HRX.out Try.underlying27 rfl (size_scells _) ?_) | (refine wpList_load_row_g (by rfl) 27 (.tmp 4) rfl (w.heap.size + 1) rfl _ (scells y).toArray _ _ HRY.out Try.underlying27 rfl (size_scells _) ?_))
          refine (HA.out _ HB.out).mono ?_
          rintro e wl ⟨rfl, kl⟩
          go_wp2_with fail
          go_ret
          exact ⟨rfl, kl⟩
        | true =>
          go_wp2_with fail
          refine (pick_bts HPX.out HPY.out (pe_second HOY.out (HF2.out.1 (by first | rfl | trivial)) (fun q => by have := HF1.out.2 ((counts_enc HOX.out 0).1 q); cases this))).mono ?_
          rintro e v21 ⟨rfl, kk⟩
          replace HRX := Lib.hid (HRX.out.below HRX.out.lt kk)
          replace HRY := Lib.hid (HRY.out.below HRY.out.lt kk)
          replace HPX := Lib.hid (HPX.out.below kk)
          replace HPY := Lib.hid (HPY.out.below kk)
          replace HB := Lib.hid (HB.out.trans (kk.mono HB.out.size))
          clear kk
          have hst := run_storeCells_new (P := Try.prog) v21 27 #[(.int .u64 0), (.int .u32 0), (.int .u32 0), (.int .u32 0), (.int .u32 0), (.int .u32 0), (.int .u32 0), (.int .u32 0), (.int .u32 0), (.int .u32 0), (.int .u64 0), (.int .u64 0), (.int .u64 0), (.int .u64 0), (.int .u64 0), (.int .u64 0), (.int .u64 0), (.int .u64 0)] (scells y).toArray (size_scells _) (by simp [length_scells]) (one_scells _)
          have hlc := length_scells y
          go_upto_region 7 with (fail)
          clear hst hlc
          have HX := Lib.hid (alloc_rowV v21 27 (scells y))
          have kk := (Below.refl v21.heap.size v21).alloc (Nat.le_refl _) (.cells (scells y).toArray 27)
          replace HRX := Lib.hid (HRX.out.below HRX.out.lt kk)
          replace HRY := Lib.hid (HRY.out.below HRY.out.lt kk)
          replace HPX := Lib.hid (HPX.out.below kk)
          replace HPY := Lib.hid (HPY.out.below kk)
          replace HB := Lib.hid (HB.out.trans (kk.mono HB.out.size))
          clear kk
          generalize v21.alloc (.cells (scells y).toArray 27) = v22 at *
          generalize v21.heap.size = x13 at *
          have q1 : (y == y) = true := by simp
          have c13 := HX.out.cellAt (scells_at y 0 (by decide))
          have c3 := HRX.out.cellAt (scells_at x 0 (by decide))
          have c4 := HRY.out.cellAt (scells_at y 0 (by decide))
          rw [scell_wide _ _ (.inl rfl)] at c13 c3 c4
          have hgx := HOX.out.lt 0
          have hgy := HOY.out.lt 0
          go_wp2_with (first | (refine wpList_load_row_g (by rfl) 27 (.tmp 13) rfl x13 rfl _ (scells y).toArray _ _ HX.out Try.underlying27 rfl (size_scells _) ?_) | (refine wpList_load_row_g (by rfl) 27 (.tmp 3) rfl w.heap.size rfl _ (scells x).toArray _ _ HRX.out Try.underlying27 rfl (size_scells _) ?_) | (refine wpList_load_row_g (by rfl) 27 (.tmp 4) rfl (w.heap.size + 1) rfl _ (scells y).toArray _ _ HRY.out Try.underlying27 rfl (size_scells _) ?_) | (refine wpList_eql_sup (by rfl) (.tmp 106) (.tmp 107) _ rfl y y HOY.out HOY.out rfl rfl ?_; rw [q1]))
          refine (HA.out _ HB.out).mono ?_
          rintro e wl ⟨rfl, kl⟩
          go_wp2_with fail
          go_ret
          exact ⟨rfl, kl⟩
      | true =>
        cases F2 with
        | false =>
          go_wp2_with fail
          refine (pick_bts HPX.out HPY.out (pe_first HOX.out (HF1.out.1 (by first | rfl | trivial)) (fun q => by have := HF2.out.2 ((counts_enc HOY.out 1).1 q); cases this))).mono ?_
          rintro e v21 ⟨rfl, kk⟩
          replace HRX := Lib.hid (HRX.out.below HRX.out.lt kk)
          replace HRY := Lib.hid (HRY.out.below HRY.out.lt kk)
          replace HPX := Lib.hid (HPX.out.below kk)
          replace HPY := Lib.hid (HPY.out.below kk)
          replace HB := Lib.hid (HB.out.trans (kk.mono HB.out.size))
          clear kk
          have hst := run_storeCells_new (P := Try.prog) v21 27 #[(.int .u64 0), (.int .u32 0), (.int .u32 0), (.int .u32 0), (.int .u32 0), (.int .u32 0), (.int .u32 0), (.int .u32 0), (.int .u32 0), (.int .u32 0), (.int .u64 0), (.int .u64 0), (.int .u64 0), (.int .u64 0), (.int .u64 0), (.int .u64 0), (.int .u64 0), (.int .u64 0)] (scells x).toArray (size_scells _) (by simp [length_scells]) (one_scells _)
          have hlc := length_scells x
          go_upto_region 7 with (fail)
          clear hst hlc
          have HX := Lib.hid (alloc_rowV v21 27 (scells x))
          have kk := (Below.refl v21.heap.size v21).alloc (Nat.le_refl _) (.cells (scells x).toArray 27)
          replace HRX := Lib.hid (HRX.out.below HRX.out.lt kk)
          replace HRY := Lib.hid (HRY.out.below HRY.out.lt kk)
          replace HPX := Lib.hid (HPX.out.below kk)
          replace HPY := Lib.hid (HPY.out.below kk)
          replace HB := Lib.hid (HB.out.trans (kk.mono HB.out.size))
          clear kk
          generalize v21.alloc (.cells (scells x).toArray 27) = v22 at *
          generalize v21.heap.size = x13 at *
          have q1 : (x == x) = true := by simp
          have c13 := HX.out.cellAt (scells_at x 0 (by decide))
          have c3 := HRX.out.cellAt (scells_at x 0 (by decide))
          have c4 := HRY.out.cellAt (scells_at y 0 (by decide))
          rw [scell_wide _ _ (.inl rfl)] at c13 c3 c4
          have hgx := HOX.out.lt 0
          have hgy := HOY.out.lt 0
          go_wp2_with (first | (refine wpList_load_row_g (by rfl) 27 (.tmp 13) rfl x13 rfl _ (scells x).toArray _ _ HX.out Try.underlying27 rfl (size_scells _) ?_) | (refine wpList_load_row_g (by rfl) 27 (.tmp 3) rfl w.heap.size rfl _ (scells x).toArray _ _ HRX.out Try.underlying27 rfl (size_scells _) ?_) | (refine wpList_load_row_g (by rfl) 27 (.tmp 4) rfl (w.heap.size + 1) rfl _ (scells y).toArray _ _ HRY.out Try.underlying27 rfl (size_scells _) ?_) | (refine wpList_eql_sup (by rfl) (.tmp 93) (.tmp 94) _ rfl x x HOX.out HOX.out rfl rfl ?_; rw [q1]))
          refine (HA.out _ HB.out).mono ?_
          rintro e wl ⟨rfl, kl⟩
          go_wp2_with fail
          go_ret
          exact ⟨rfl, kl⟩
        | true =>
          by_cases hl : nth x 0 < nth y 0
          · skip
            go_wp2_with fail
            refine (pick_bts HPX.out HPY.out (pe_both HOX.out HOY.out (HF1.out.1 (by first | rfl | trivial)) (HF2.out.1 (by first | rfl | trivial)) hl)).mono ?_
            rintro e v21 ⟨rfl, kk⟩
            replace HRX := Lib.hid (HRX.out.below HRX.out.lt kk)
            replace HRY := Lib.hid (HRY.out.below HRY.out.lt kk)
            replace HPX := Lib.hid (HPX.out.below kk)
            replace HPY := Lib.hid (HPY.out.below kk)
            replace HB := Lib.hid (HB.out.trans (kk.mono HB.out.size))
            clear kk
            have hst := run_storeCells_new (P := Try.prog) v21 27 #[(.int .u64 0), (.int .u32 0), (.int .u32 0), (.int .u32 0), (.int .u32 0), (.int .u32 0), (.int .u32 0), (.int .u32 0), (.int .u32 0), (.int .u32 0), (.int .u64 0), (.int .u64 0), (.int .u64 0), (.int .u64 0), (.int .u64 0), (.int .u64 0), (.int .u64 0), (.int .u64 0)] (scells y).toArray (size_scells _) (by simp [length_scells]) (one_scells _)
            have hlc := length_scells y
            go_upto_region 7 with (fail)
            clear hst hlc
            have HX := Lib.hid (alloc_rowV v21 27 (scells y))
            have kk := (Below.refl v21.heap.size v21).alloc (Nat.le_refl _) (.cells (scells y).toArray 27)
            replace HRX := Lib.hid (HRX.out.below HRX.out.lt kk)
            replace HRY := Lib.hid (HRY.out.below HRY.out.lt kk)
            replace HPX := Lib.hid (HPX.out.below kk)
            replace HPY := Lib.hid (HPY.out.below kk)
            replace HB := Lib.hid (HB.out.trans (kk.mono HB.out.size))
            clear kk
            generalize v21.alloc (.cells (scells y).toArray 27) = v22 at *
            generalize v21.heap.size = x13 at *
            have q1 : (y == y) = true := by simp
            have c13 := HX.out.cellAt (scells_at y 0 (by decide))
            have c3 := HRX.out.cellAt (scells_at x 0 (by decide))
            have c4 := HRY.out.cellAt (scells_at y 0 (by decide))
            rw [scell_wide _ _ (.inl rfl)] at c13 c3 c4
            have hgx := HOX.out.lt 0
            have hgy := HOY.out.lt 0
            have hli : ¬ (nth y 0 : Int) < (nth x 0 : Int) := by omega
            go_wp2_with (first | (refine wpList_load_row_g (by rfl) 27 (.tmp 13) rfl x13 rfl _ (scells y).toArray _ _ HX.out Try.underlying27 rfl (size_scells _) ?_) | (refine wpList_load_row_g (by rfl) 27 (.tmp 3) rfl w.heap.size rfl _ (scells x).toArray _ _ HRX.out Try.underlying27 rfl (size_scells _) ?_) | (refine wpList_load_row_g (by rfl) 27 (.tmp 4) rfl (w.heap.size + 1) rfl _ (scells y).toArray _ _ HRY.out Try.underlying27 rfl (size_scells _) ?_) | (refine wpList_eql_sup (by rfl) (.tmp 106) (.tmp 107) _ rfl y y HOY.out HOY.out rfl rfl ?_; rw [q1]))
            refine (HA.out _ HB.out).mono ?_
            rintro e wl ⟨rfl, kl⟩
            go_wp2_with fail
            go_ret
            exact ⟨rfl, kl⟩
          · skip
            have hl2 : nth y 0 < nth x 0 := by have := (HF1.out.1 (by first | rfl | trivial)).2; have := (HF2.out.1 (by first | rfl | trivial)).2; omega
            go_wp2_with fail
            refine (pick_bts HPX.out HPY.out (pe_both' HOX.out HOY.out (HF1.out.1 (by first | rfl | trivial)) (HF2.out.1 (by first | rfl | trivial)) hl2)).mono ?_
            rintro e v21 ⟨rfl, kk⟩
            replace HRX := Lib.hid (HRX.out.below HRX.out.lt kk)
            replace HRY := Lib.hid (HRY.out.below HRY.out.lt kk)
            replace HPX := Lib.hid (HPX.out.below kk)
            replace HPY := Lib.hid (HPY.out.below kk)
            replace HB := Lib.hid (HB.out.trans (kk.mono HB.out.size))
            clear kk
            have hst := run_storeCells_new (P := Try.prog) v21 27 #[(.int .u64 0), (.int .u32 0), (.int .u32 0), (.int .u32 0), (.int .u32 0), (.int .u32 0), (.int .u32 0), (.int .u32 0), (.int .u32 0), (.int .u32 0), (.int .u64 0), (.int .u64 0), (.int .u64 0), (.int .u64 0), (.int .u64 0), (.int .u64 0), (.int .u64 0), (.int .u64 0)] (scells x).toArray (size_scells _) (by simp [length_scells]) (one_scells _)
            have hlc := length_scells x
            go_upto_region 7 with (fail)
            clear hst hlc
            have HX := Lib.hid (alloc_rowV v21 27 (scells x))
            have kk := (Below.refl v21.heap.size v21).alloc (Nat.le_refl _) (.cells (scells x).toArray 27)
            replace HRX := Lib.hid (HRX.out.below HRX.out.lt kk)
            replace HRY := Lib.hid (HRY.out.below HRY.out.lt kk)
            replace HPX := Lib.hid (HPX.out.below kk)
            replace HPY := Lib.hid (HPY.out.below kk)
            replace HB := Lib.hid (HB.out.trans (kk.mono HB.out.size))
            clear kk
            generalize v21.alloc (.cells (scells x).toArray 27) = v22 at *
            generalize v21.heap.size = x13 at *
            have q1 : (x == x) = true := by simp
            have c13 := HX.out.cellAt (scells_at x 0 (by decide))
            have c3 := HRX.out.cellAt (scells_at x 0 (by decide))
            have c4 := HRY.out.cellAt (scells_at y 0 (by decide))
            rw [scell_wide _ _ (.inl rfl)] at c13 c3 c4
            have hgx := HOX.out.lt 0
            have hgy := HOY.out.lt 0
            have hli : ¬ (nth x 0 : Int) < (nth y 0 : Int) := by omega
            go_wp2_with (first | (refine wpList_load_row_g (by rfl) 27 (.tmp 13) rfl x13 rfl _ (scells x).toArray _ _ HX.out Try.underlying27 rfl (size_scells _) ?_) | (refine wpList_load_row_g (by rfl) 27 (.tmp 3) rfl w.heap.size rfl _ (scells x).toArray _ _ HRX.out Try.underlying27 rfl (size_scells _) ?_) | (refine wpList_load_row_g (by rfl) 27 (.tmp 4) rfl (w.heap.size + 1) rfl _ (scells y).toArray _ _ HRY.out Try.underlying27 rfl (size_scells _) ?_) | (refine wpList_eql_sup (by rfl) (.tmp 93) (.tmp 94) _ rfl x x HOX.out HOX.out rfl rfl ?_; rw [q1]))
            refine (HA.out _ HB.out).mono ?_
            rintro e wl ⟨rfl, kl⟩
            go_wp2_with fail
            go_ret
            exact ⟨rfl, kl⟩
end Go.Proofs.Ytkhimoclikhlaaa.Su
