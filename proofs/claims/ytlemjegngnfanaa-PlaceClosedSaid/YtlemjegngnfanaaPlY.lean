/- A stage's operations: own, done. Operations that came in. -/
import Derived.Test.YtlemjegngnfanaaPlX
namespace Go.Proofs.Ytlemjegngnfanaa.Pl
open Go.RowKit Go.Proofs.Ytlemjegngnfanaa.Oct Go.Proofs.Ytlemjegngnfanaa.Mv Go.Proofs.Ytlemjegngnfanaa.Tl Go.Proofs.Ytlemjegngnfanaa.Pk Go.Maps
set_option linter.unusedVariables false

theorem jx0 (w : World) (A1 A2 : Option Addr) (n1 n2 c1 c2 : Nat) : (Instr.index 103 (.agg #[.slice A1 n1 c1, .slice A2 n2 c2]) (.int .i64 0)).run Try.prog w = .ok (.slice A1 n1 c1) w := by kernel_rfl
theorem jx1 (w : World) (A1 A2 : Option Addr) (n1 n2 c1 c2 : Nat) : (Instr.index 103 (.agg #[.slice A1 n1 c1, .slice A2 n2 c2]) (.int .i64 1)).run Try.prog w = .ok (.slice A2 n2 c2) w := by kernel_rfl
theorem Stg.len {w : World} {D : Sd} {q : Q} {l1 l2 : List Nat} (h : Stg w D q l1 l2) : ToldV w (some ⟨D.g1, 0, none⟩) (ints l1) ∧ ToldV w (some ⟨D.g3, 0, none⟩) (ints l2) := ⟨has_told h.r1, has_told h.r2⟩
set_option maxRecDepth 100000 in
set_option maxHeartbeats 2000000 in
theorem own_any {w : World} {D : Sd} {q : Q} {l1 l2 : List Nat} (h : Stg w D q l1 l2) (hl1 : l1.length ≤ 4096) (hl2 : l2.length ≤ 4096) (b : Nat) :
    Calls Try.prog 51 #[.pointer (some ⟨D.X, 0, none⟩), .int .i64 (b : Int)] w fun e w' => e = .returned (.bool (decide (b ∈ l1 ++ l2))) ∧ Below w.heap.size w w' := by
  have c2 := h.row.cellAt (i := 2) rfl
  have c3 := h.row.cellAt (i := 3) rfl
  have H1 := Lib.hid h.len.1
  have H2 := Lib.hid h.len.2
  clear h
  go_enter Try.func51, Try.ntmps51
  go_upto_region 1 with (fail)
  go_quiet (fail)
  have HB := Lib.hid ((show Still w (w.drewN nq) from ⟨rfl, rfl, rfl, rfl⟩).below w.heap.size)
  have HT1 := Lib.hid (H1.out.still (show Still w (w.drewN nq) from ⟨rfl, rfl, rfl, rfl⟩))
  have HT2 := Lib.hid (H2.out.still (show Still w (w.drewN nq) from ⟨rfl, rfl, rfl, rfl⟩))
  clear c2 c3 H1 H2
  generalize w.drewN nq = w2 at *
  have hjx0 := jx0
  have hjx1 := jx1
  go_wp2_with fail
  go_loopw [20] (fun i wr => ((i = .int .i64 0) ∨ (i = .int .i64 1 ∧ Hid (b ∉ l1)) ∨ (i = .int .i64 2 ∧ Hid (b ∉ l1) ∧ Hid (b ∉ l2))) ∧ wr = w2) (fun i _ => 2 - (Go.RowKit.intOf i).toNat)
  case atStart => exact ⟨.inl rfl, rfl⟩
  case round =>
    obtain ⟨hk, rfl⟩ := hrel
    rcases hk with rfl | ⟨rfl, HN1⟩ | ⟨rfl, HN1, HN2⟩
    · go_wp2_with fail
      go_loopw [25] (fun i wx => (∃ j : Nat, j ≤ l1.length ∧ i = .int .i64 (j : Int) ∧ Hid (∀ m, m < j → l1.getD m 0 ≠ b)) ∧ wx = wr) (fun i _ => l1.length - (Go.RowKit.intOf i).toNat)
      case atStart => exact ⟨⟨0, Nat.zero_le _, rfl, Lib.hid (fun m hm => by omega)⟩, rfl⟩
      case round =>
        obtain ⟨⟨j, hj, rfl, HJ⟩, hwx⟩ := hrel
        subst hwx
        by_cases hlt : j < l1.length
        · have hji : (j : Int) < (l1.length : Int) := by omega
          obtain ⟨bb, oo, heq, hbb, hc⟩ := told_nat HT1.out hlt
          simp only [Option.some.injEq, Addr.mk.injEq, and_true] at heq
          obtain ⟨rfl, rfl⟩ := heq
          rw [Nat.zero_add] at hc
          have HY := Lib.hid (show l1.getD j 0 ∈ l1 from by rw [List.getD_eq_getElem?_getD, List.getElem?_eq_getElem hlt]; exact List.getElem_mem hlt)
          have HNX := Lib.hid (show l1.getD j 0 ≠ b → ∀ m, m < j + 1 → l1.getD m 0 ≠ b from fun h m hm => (Nat.lt_or_ge m j).elim (HJ.out m) (fun h2 => by rw [show m = j by omega]; exact h))
          generalize l1.getD j 0 = y at *
          by_cases hyb : y = b
          · have hybi : (y : Int) = (b : Int) := by omega
            go_wp2_with fail
            go_ret
            refine ⟨?_, HB.out⟩
            rw [decide_eq_true (List.mem_append.2 (.inl (hyb ▸ HY.out)))]
            rfl
          · have hybi : ¬ ((y : Int) = (b : Int)) := by omega
            have hybb : ((y : Int) == (b : Int)) = false := by rw [beq_eq_false_iff_ne]; exact hybi
            go_wp2_with fail
            go_roundw
            case rel => exact ⟨⟨j + 1, by omega, by go_num, Lib.hid (HNX.out hyb)⟩, trivial⟩
            case measure => simp [Go.RowKit.intOf]; omega
        · have hji : ¬ (j : Int) < (l1.length : Int) := by omega
          obtain rfl : j = l1.length := by omega
          have hno : b ∉ l1 := fun hm => by
            obtain ⟨m, hm1, hm2⟩ := List.mem_iff_getElem.1 hm
            exact HJ.out m hm1 (by rw [List.getD_eq_getElem?_getD, List.getElem?_eq_getElem hm1]; exact hm2)
          go_wp2_with fail
          go_roundw
          case rel => exact ⟨.inr (.inl ⟨rfl, Lib.hid hno⟩), trivial⟩
          case measure => simp [Go.RowKit.intOf]
    · go_wp2_with fail
      go_loopw [25] (fun i wx => (∃ j : Nat, j ≤ l2.length ∧ i = .int .i64 (j : Int) ∧ Hid (∀ m, m < j → l2.getD m 0 ≠ b)) ∧ wx = wr) (fun i _ => l2.length - (Go.RowKit.intOf i).toNat)
      case atStart => exact ⟨⟨0, Nat.zero_le _, rfl, Lib.hid (fun m hm => by omega)⟩, rfl⟩
      case round =>
        obtain ⟨⟨j, hj, rfl, HJ⟩, hwx⟩ := hrel
        subst hwx
        by_cases hlt : j < l2.length
        · have hji : (j : Int) < (l2.length : Int) := by omega
          obtain ⟨bb, oo, heq, hbb, hc⟩ := told_nat HT2.out hlt
          simp only [Option.some.injEq, Addr.mk.injEq, and_true] at heq
          obtain ⟨rfl, rfl⟩ := heq
          rw [Nat.zero_add] at hc
          have HY := Lib.hid (show l2.getD j 0 ∈ l2 from by rw [List.getD_eq_getElem?_getD, List.getElem?_eq_getElem hlt]; exact List.getElem_mem hlt)
          have HNX := Lib.hid (show l2.getD j 0 ≠ b → ∀ m, m < j + 1 → l2.getD m 0 ≠ b from fun h m hm => (Nat.lt_or_ge m j).elim (HJ.out m) (fun h2 => by rw [show m = j by omega]; exact h))
          generalize l2.getD j 0 = y at *
          by_cases hyb : y = b
          · have hybi : (y : Int) = (b : Int) := by omega
            go_wp2_with fail
            go_ret
            refine ⟨?_, HB.out⟩
            rw [decide_eq_true (List.mem_append.2 (.inr (hyb ▸ HY.out)))]
            rfl
          · have hybi : ¬ ((y : Int) = (b : Int)) := by omega
            have hybb : ((y : Int) == (b : Int)) = false := by rw [beq_eq_false_iff_ne]; exact hybi
            go_wp2_with fail
            go_roundw
            case rel => exact ⟨⟨j + 1, by omega, by go_num, Lib.hid (HNX.out hyb)⟩, trivial⟩
            case measure => simp [Go.RowKit.intOf]; omega
        · have hji : ¬ (j : Int) < (l2.length : Int) := by omega
          obtain rfl : j = l2.length := by omega
          have hno : b ∉ l2 := fun hm => by
            obtain ⟨m, hm1, hm2⟩ := List.mem_iff_getElem.1 hm
            exact HJ.out m hm1 (by rw [List.getD_eq_getElem?_getD, List.getElem?_eq_getElem hm1]; exact hm2)
          go_wp2_with fail
          go_roundw
          case rel => exact ⟨.inr (.inr ⟨rfl, HN1, Lib.hid hno⟩), trivial⟩
          case measure => simp [Go.RowKit.intOf]
    · go_wp2_with fail
      go_ret
      refine ⟨?_, HB.out⟩
      rw [decide_eq_false (fun h => (List.mem_append.1 h).elim HN1.out HN2.out)]
      rfl
/-- What an operation leaves: the stage is sound, as it was. -/
def DoneOut (D : Sd) (q : Q) (l1 l2 : List Nat) (w : World) (e : Ending) (w' : World) : Prop := ∃ q', e = .returned (.tuple #[]) ∧ Stg w' D q' l1 l2 ∧ Sound q' l1 l2 ∧ q'.s.n = q.s.n ∧ ButL w w' [D.cb, D.mb, D.p]
theorem up_sound {q : Q} {l1 l2 : List Nat} (h : Sound q l1 l2) {b : Nat} (hb : b < q.s.n) (hn : b ∉ l1 ++ l2) : Sound ⟨(q.s.up (b : Int)).2, q.first, q.next, q.asked⟩ l1 l2 ∧ (q.s.up (b : Int)).2.n = q.s.n := by
  unfold St.up
  rw [if_pos ⟨by omega, by omega⟩, Int.toNat_natCast]
  split
  · exact ⟨h, rfl⟩
  · exact ⟨h.put hb hn _, n_put _ _ _⟩
theorem down_sound {q : Q} {l1 l2 : List Nat} (h : Sound q l1 l2) {b : Nat} (hb : b < q.s.n) (hn : b ∉ l1 ++ l2) : Sound ⟨(q.s.down (b : Int)).2, q.first, q.next, q.asked⟩ l1 l2 ∧ (q.s.down (b : Int)).2.n = q.s.n := by
  unfold St.down
  rw [if_pos ⟨by omega, by omega⟩, Int.toNat_natCast]
  split
  · exact ⟨h, rfl⟩
  · exact ⟨h.put hb hn _, n_put _ _ _⟩
set_option maxRecDepth 100000 in
set_option maxHeartbeats 4000000 in
theorem done_sound {w : World} {D : Sd} {q : Q} {l1 l2 : List Nat} (h : Stg w D q l1 l2) (hs : Sound q l1 l2) (h16 : 16 ≤ q.s.n) (x : Opr) (hx : (Lit.int .i64 x.b).wf = true) :
    Calls Try.prog 29 #[.pointer (some ⟨D.X, 0, none⟩), .agg #[.int .u8 (x.what.toNat : Int), .int .i64 x.b]] w (DoneOut D q l1 l2 w) := by
  have hle : q.s.n ≤ 4096 := hs.ok.s.hi
  obtain ⟨z, hz⟩ : ∃ z, z = x.b := ⟨_, rfl⟩
  obtain ⟨kd, hkd⟩ : ∃ kd : Nat, kd = x.what.toNat := ⟨_, rfl⟩
  have hkd2 := u8_lt x.what
  rw [← hkd] at hkd2 ⊢
  rw [← hz] at hx ⊢
  clear hz hkd
  obtain ⟨n, hnq⟩ : ∃ n, n = q.s.n := ⟨_, rfl⟩
  obtain ⟨m, hm⟩ : ∃ m : Nat, m = n - 2 := ⟨_, rfl⟩
  have hmi : (n : Int) - 2 = (m : Int) := by omega
  have hm0 : (0 : Int) < (m : Int) := by omega
  have hm4 : (m : Int) ≤ 4096 := by omega
  have hlo := Int.lt_tmod_of_pos z hm0
  have hup := Int.tmod_lt_of_pos z hm0
  have hsp := spot_is (n := m) (by omega) z
  have hsl := spot_lt (n := m) (by omega) z
  have hne : ¬ ((m : Int) = 0) := by omega
  have hqn : z.tmod (m : Int) + (n : Int) - 2 = z.tmod (m : Int) + (m : Int) := by omega
  have hsp2 : (z.tmod (m : Int) + (m : Int)) % (m : Int) = (spot m z : Int) := by rw [← Int.tmod_eq_emod_of_nonneg (by omega)]; exact hsp
  obtain ⟨bk, hbk⟩ : ∃ bk : Nat, bk = 2 + spot m z := ⟨_, rfl⟩
  have hbki : (2 : Int) + (spot m z : Int) = (bk : Int) := by omega
  have HBK := Lib.hid (show bk < q.s.n by omega)
  have HZ := Lib.hid hx
  have hz64 : -9223372036854775808 ≤ z ∧ z ≤ 9223372036854775807 := by
    have h2 : IntKind.i64.min ≤ z ∧ z ≤ IntKind.i64.max := by simpa [Lit.wf] using hx
    exact h2
  generalize spot m z = sp at *
  clear hm hbk
  have bz := (Below.refl w.heap.size w).alloc (Nat.le_refl _) (.cells #[.int .u8 (kd : Int), .int .i64 z] 45)
  have HR := Lib.hid (alloc_rowV w 45 [.int .u8 (kd : Int), .int .i64 z])
  have HS := Lib.hid (h.kept bz)
  have HB := Lib.hid (ButL.of_below [D.cb, D.mb, D.p] bz (Nat.le_refl _))
  have HSO := Lib.hid hs
  have HNQ := Lib.hid hnq
  clear h hs bz hx hnq
  go_enter Try.func29, Try.ntmps29
  go_upto_region 1 with (fail)
  generalize w.alloc (.cells #[.int .u8 (kd : Int), .int .i64 z] 45) = w1 at *
  obtain ⟨r, hr⟩ : ∃ r, r = w.heap.size := ⟨_, rfl⟩
  rw [← hr] at HR ⊢
  clear hr
  have c0 := HS.out.row.cellAt (i := 0) rfl
  have c1 := HS.out.row.cellAt (i := 1) rfl
  have o0 := HR.out.cellAt (i := 0) rfl
  have o1 := HR.out.cellAt (i := 1) rfl
  go_wp2_with fail
  refine (blocks_at HS.out.pat.tally).mono ?_
  rintro e w' ⟨rfl, rfl⟩
  rw [← HNQ.out]
  have hl := HSO.out.len1
  have hlen : l1.length ≤ 4096 ∧ l2.length ≤ 4096 := by
    have h1 := pg_le (n := q.s.n) hle
    have h2 := pg_le (n := pg q.s.n) (by omega)
    rw [HSO.out.len1, HSO.out.len2]; omega
  have HLEN := Lib.hid hlen
  clear hl hlen
  have hk5 : kd % 5 = 0 ∨ kd % 5 = 1 ∨ kd % 5 = 2 ∨ kd % 5 = 3 ∨ kd % 5 = 4 := by omega
  rcases hk5 with hk | hk | hk | hk | hk
  · have hki : (kd : Int) % 5 = 0 := by omega
    clear hk
    go_wp2_with fail
    refine (room_at HS.out.pat).mono ?_
    rintro e w' ⟨rfl, rfl⟩
    go_wp2_with fail
    refine (need_eq n (by rw [HNQ.out]; exact hle) _).mono ?_
    rintro e w' ⟨rfl, rfl⟩
    by_cases hgt : need n < q.room
    · have hgti : (need n : Int) < (q.room : Int) := by omega
      go_wp2_with fail
      refine (take_some HS.out.pat (by omega)).mono ?_
      rintro e w3 ⟨b, rfl, hfb, hpt, hbt⟩
      have HF := Lib.hid hfb
      have HST := Lib.hid (HS.out.turned hpt hbt)
      have HB3 := Lib.hid (HB.out.trans (butL_of3 hbt))
      clear hpt hbt hfb c0 c1 o0 o1
      go_wp2_with fail
      go_end0
      exact ⟨q.took b, rfl, HST.out, HSO.out.took HF.out, n_took _ _, HB3.out⟩
    · have hgti : ¬ ((need n : Int) < (q.room : Int)) := by omega
      go_wp2_with fail
      go_end0
      exact ⟨q, rfl, HS.out, HSO.out, rfl, HB.out⟩
  · have hki : (kd : Int) % 5 = 1 := by omega
    clear hk
    go_wp2_with fail
    refine (get_yes HS.out.pat.tally bk HBK.out).mono ?_
    rintro e w' ⟨rfl, rfl⟩
    have hc := u16_lt (q.s.cnt bk)
    obtain ⟨cn, hcn⟩ : ∃ cn, cn = (q.s.cnt bk).toNat := ⟨_, rfl⟩
    rw [← hcn] at hc ⊢
    clear hcn
    by_cases hgt : 0 < cn
    · have hgti : (0 : Int) < (cn : Int) := by omega
      go_wp2_with fail
      refine (own_any HS.out HLEN.out.1 HLEN.out.2 bk).mono ?_
      rintro e w3 ⟨rfl, bz⟩
      have HS3 := Lib.hid (HS.out.kept bz)
      have HB3 := Lib.hid (HB.out.trans (ButL.of_below [D.cb, D.mb, D.p] bz (Nat.le_refl _)))
      have HR3 := Lib.hid (HR.out.below HR.out.lt bz)
      clear c0 c1 o0 o1 bz
      have c0 := HS3.out.row.cellAt (i := 0) rfl
      have o0 := HR3.out.cellAt (i := 0) rfl
      have HDB := Lib.hid (decide_eq_true_iff (p := bk ∈ l1 ++ l2))
      cases hdd : decide (bk ∈ l1 ++ l2)
      · have HNO := Lib.hid (show bk ∉ l1 ++ l2 from of_decide_eq_false hdd)
        clear hdd HDB
        go_wp2_with fail
        refine (up_at HS3.out.pat.tally (bk : Int)).mono ?_
        rintro e w4 ⟨rfl, hat, hbt⟩
        obtain ⟨hso, hnn⟩ := up_sound HSO.out HBK.out HNO.out
        have HST := Lib.hid (HS3.out.turnL (HS3.out.pat.turned hat hbt hnn) (butL_of2 hbt))
        have HB4 := Lib.hid (HB3.out.trans (butL_of2 (p := D.p) hbt))
        have HO := Lib.hid (And.intro hso hnn)
        clear hat hbt hso hnn c0 o0
        go_wp2_with fail
        go_end0
        exact ⟨_, rfl, HST.out, HO.out.1, HO.out.2, HB4.out⟩
      · clear hdd HDB
        go_wp2_with fail
        go_end0
        exact ⟨q, rfl, HS3.out, HSO.out, rfl, HB3.out⟩
    · have hgti : ¬ ((0 : Int) < (cn : Int)) := by omega
      go_wp2_with fail
      go_end0
      exact ⟨q, rfl, HS.out, HSO.out, rfl, HB.out⟩
  · have hki : (kd : Int) % 5 = 2 := by omega
    clear hk
    go_wp2_with fail
    refine (own_any HS.out HLEN.out.1 HLEN.out.2 bk).mono ?_
    rintro e w3 ⟨rfl, bz⟩
    have HS3 := Lib.hid (HS.out.kept bz)
    have HB3 := Lib.hid (HB.out.trans (ButL.of_below [D.cb, D.mb, D.p] bz (Nat.le_refl _)))
    clear c0 c1 o0 o1 bz
    have c0 := HS3.out.row.cellAt (i := 0) rfl
    cases hdd : decide (bk ∈ l1 ++ l2)
    · have HNO := Lib.hid (show bk ∉ l1 ++ l2 from of_decide_eq_false hdd)
      clear hdd
      go_wp2_with fail
      refine (down_at HS3.out.pat.tally (bk : Int)).mono ?_
      rintro e w4 ⟨rfl, hat, hbt⟩
      obtain ⟨hso, hnn⟩ := down_sound HSO.out HBK.out HNO.out
      have HST := Lib.hid (HS3.out.turnL (HS3.out.pat.turned hat hbt hnn) (butL_of2 hbt))
      have HB4 := Lib.hid (HB3.out.trans (butL_of2 (p := D.p) hbt))
      have HO := Lib.hid (And.intro hso hnn)
      clear hat hbt hso hnn c0
      go_wp2_with fail
      go_end0
      exact ⟨_, rfl, HST.out, HO.out.1, HO.out.2, HB4.out⟩
    · clear hdd
      go_wp2_with fail
      go_end0
      exact ⟨q, rfl, HS3.out, HSO.out, rfl, HB3.out⟩
  · have hki : (kd : Int) % 5 = 3 := by omega
    clear hk
    go_wp2_with fail
    go_end0
    exact ⟨q, rfl, HS.out, HSO.out, rfl, HB.out⟩
  · have hki : (kd : Int) % 5 = 4 := by omega
    clear hk
    go_wp2_with fail
    go_end0
    exact ⟨q, rfl, HS.out, HSO.out, rfl, HB.out⟩
end Go.Proofs.Ytlemjegngnfanaa.Pl
