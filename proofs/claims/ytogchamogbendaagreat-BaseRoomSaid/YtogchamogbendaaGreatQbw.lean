/- Several texts in one: BtF BtH BtJ BtI. (Written by bin/prune.py.) -/
import Derived.Test.YtogchamogbendaaGreatQbu
/- Layer 11: the chapter's examples. -/
namespace Go.Proofs.YtogchamogbendaaGreat.Bs
set_option maxRecDepth 100000
open Go.RowKit Go.Proofs.YtogchamogbendaaGreat.Oct Go.Proofs.YtogchamogbendaaGreat.Mv Go.Proofs.YtogchamogbendaaGreat.Tl Go.Proofs.YtogchamogbendaaGreat.Pk Go.Proofs.YtogchamogbendaaGreat.Pl Go.Maps Go.ChangeMaps
open Go.Proofs.YtogchamogbendaaGreat.Dsk (dT)
open Go.Proofs.YtogchamogbendaaGreat.Su (Sup nth)
set_option linter.unusedVariables false
set_option linter.unusedSimpArgs false
set_option pp.deepTerms true

section
variable {Pr : Nat → Prop} {w w' : World} {A : Adr} {x : BS}
theorem BAt.list_apart (h : BAt Pr w A x) {X : Nat} {T : TypeId} {vs : List Value} (hr : RowV w X T vs) (hT : T ≠ 72 ∧ T ≠ 34 ∧ T ≠ 235) : X ∉ A.list := by
  obtain ⟨t1, t2, t3⟩ := hT
  obtain ⟨s1, e1, s2, e2, h1, _⟩ := h.row
  obtain ⟨es, cl, hm⟩ := h.fm.map
  obtain ⟨spc, hcb⟩ := h.pat.tally.nums
  obtain ⟨nn, D, ⟨es2, cl2, ho, _⟩, _⟩ := h.pat.tally.mp
  intro hj
  simp only [Adr.list, List.mem_cons, List.not_mem_nil, or_false] at hj
  rcases hj with e | e | e | e | e
  · exact row_ne hr h1 t1 e
  · exact row_ne hr hcb t2 e
  · exact map_ne hr ho e
  · exact row_ne hr h.pat.row t3 e
  · exact map_ne hr hm e
/-- A row of bytes stays, whatever a base turns of its own. -/
theorem BAt.bytes (h : BAt Pr w A x) {g : Nat} {bs : List UInt8} (hr : Row w g bs) (k : ButL w w' A.list) : Row w' g bs := (k.block g (lt_of_heap hr) (h.list_apart (T := 5) (vs := vals bs) hr (by decide))).trans hr
theorem BAt.bytes3 (h : BAt Pr w A x) {g : Nat} {bs : List UInt8} (hr : Row w g bs) (hb : bs.length = 128) : ∀ w', ButL w w' [A.cb, A.mb, A.p] → Oct.Told w' (some ⟨g, 0, none⟩) bs := fun w' k => (h.bytes hr (k.mono (by simp [Adr.list]))).has.told
end
theorem lowb {A : Adr} {B : Nat} {w w1 w2 : World} (hA : ∀ k ∈ A.list, B ≤ k) (h : Below B w w1) (k : ButL w1 w2 A.list) (hB : B ≤ w.heap.size) : Below B w w2 := h.trans (k.below hA (Nat.le_trans hB h.size))
theorem lowo {A : Adr} {B : Nat} {w w1 w2 : World} (hA : ∀ k ∈ A.list, B ≤ k) (h : Below B w w1) (k : Off dT (fun k => k < B) A.list w1 w2) (hB : B ≤ w.heap.size) : Below B w w2 := h.trans (k.below (fun _ h => h) hA (Nat.le_trans hB h.size))
theorem conv_run {w : World} {A : Option Addr} {n : Nat} {bs : List UInt8} (hl : bs.length = n) (h : Oct.Told w A bs) (c : Nat) : (convert 45 9 (.slice A n c)).run Tryz.prog w = .ok (.string ⟨bs.toArray⟩) w := by
  subst hl
  exact conv_told (P := Tryz.prog) h c 45 9 5 Tryz.underlying45 Tryz.underlying5 Tryz.underlying9
set_option maxHeartbeats 4000000 in
theorem awake_any (w : World) : Calls Tryz.prog 23 #[] w fun e w' => e = .returned (.bool true) ∧ Below w.heap.size w w' := by
  go_enter Tryz.func23, Tryz.ntmps23
  go_wp2_with fail
  refine (formatted_any 0 w).mono ?_
  rintro e w1 ⟨A, y, rfl, hbg, hA, hat, B1⟩
  have hy : y = aY := aw_y hbg
  subst hy
  have HA := Lib.hid hA
  have HBG := Lib.hid (show Begun0 16 aY from hbg)
  have HG1 := Lib.hid (show Good (made0 16 aY) from made_good (by omega) (by omega) hbg)
  have H1 := Lib.hid (show BAt (fun k => k < w.heap.size) w1 A (made0 16 aY) from hat)
  have HB1 := Lib.hid B1
  obtain ⟨r1, r2, r3⟩ := aw_room
  obtain ⟨u0, u1, u4⟩ := aw_sup
  have HR := Lib.hid (And.intro r1 (And.intro r2 r3))
  have HU := Lib.hid (And.intro u0 (And.intro u1 u4))
  clear hA hbg hat B1 r1 r2 r3 u0 u1 u4
  go_wp2_with fail
  refine (gen_at H1.out).mono ?_
  rintro e w' ⟨rfl, rfl⟩
  rw [HU.out.1]
  go_wp2_with fail
  refine (room_at H1.out (by rw [HU.out.2.1]; omega) (by rw [HU.out.2.1, HR.out.2.1]) (by rw [HR.out.2.1, HR.out.2.2, HR.out.1]; omega)).mono ?_
  rintro e w' ⟨rfl, rfl⟩
  rw [HR.out.2.1, HR.out.2.2, HR.out.1]
  go_wp2_with fail
  refine (blocks_at H1.out (by rw [HU.out.2.1]; omega)).mono ?_
  rintro e w' ⟨rfl, rfl⟩
  rw [HU.out.2.1]
  go_wp2_with fail
  refine (block_any 9 (by omega) _).mono ?_
  rintro e w2 ⟨g, rfl, hg, hrow, B2⟩
  have H2 := Lib.hid (H1.out.below B2)
  have HB2 := Lib.hid (HB1.out.trans (B2.mono HB1.out.size))
  have HRW := Lib.hid hrow
  clear hrow B2 H1 HB1
  go_wp2_with fail
  refine (put_at H2.out (by rw [HU.out.2.1]; omega) (by rw [HU.out.2.1, HR.out.2.1]) (by rw [HR.out.2.1, HR.out.2.2, HR.out.1]; omega) (length_blk 9) (H2.out.bytes3 HRW.out (length_blk 9))).mono ?_
  rintro e w3 ⟨b, rfl, hfd, hat, hb⟩
  obtain rfl : b = 4 := aw_found hfd
  have HA1 := Lib.hid (aw1 HBG.out hfd (length_blk 9))
  have HB3 := Lib.hid (lowb HA.out HB2.out hb (Nat.le_refl _))
  obtain ⟨x1, hx1⟩ : ∃ x, x = (made0 16 aY).put 4 (blk 9) := ⟨_, rfl⟩
  rw [← hx1] at HA1 hat
  have H3 := Lib.hid hat
  clear hfd hat hb hx1 H2 HB2 HRW HR HU HG1 HBG
  go_wp2_with fail
  refine (count_at H3.out 4 (by rw [HA1.out.n]; omega)).mono ?_
  rintro e w' ⟨rfl, rfl⟩
  rw [HA1.out.cnt, show ((1 : UInt16).toNat : Int) = 1 from rfl]
  go_wp2_with fail
  refine (fresh_at H3.out 4 (by omega)).mono ?_
  rintro e w' ⟨rfl, rfl⟩
  rw [HA1.out.has, show (some (blk 9)).isSome = true from rfl]
  go_wp2_with fail
  refine (commit_did H3.out HA1.out.g (.inr HA1.out.changed) (by rw [HA1.out.now0]; omega)).mono ?_
  rintro e w4 ⟨rfl, y1, hy1, hat, ho⟩
  have HA2 := Lib.hid (aw2 HA1.out hy1)
  have HB4 := Lib.hid (lowo HA.out HB3.out ho (Nat.le_refl _))
  generalize x1.com y1 = x2 at *
  have H4 := Lib.hid hat
  clear hy1 hat ho H3 HB3 HA1
  go_wp2_with fail
  refine (gen_at H4.out).mono ?_
  rintro e w' ⟨rfl, rfl⟩
  rw [HA2.out.now0]
  go_wp2_with fail
  refine (waits_at H4.out).mono ?_
  rintro e w5 ⟨rfl, kz⟩
  rw [HA2.out.idle]
  have H5 := Lib.hid (H4.out.below kz)
  have HB5 := Lib.hid (HB4.out.trans (kz.mono HB4.out.size))
  clear kz H4 HB4
  go_wp2_with fail
  refine (block_any 1 (by omega) _).mono ?_
  rintro e w6 ⟨g1, rfl, hg1, hrow, kz⟩
  have H6 := Lib.hid (H5.out.below kz)
  have HB6 := Lib.hid (HB5.out.trans (kz.mono HB5.out.size))
  have HN2 := Lib.hid (show nth x2.now 1 = 16 from HA2.out.gd.n1.trans HA2.out.n)
  clear kz H5 HB5 hrow hg1
  go_wp2_with fail
  refine (over_kept H6.out (by rw [HN2.out]; omega) 4 (by rw [HN2.out]; omega) HA2.out.fr _ _).mono ?_
  rintro e w' ⟨rfl, rfl⟩
  go_wp2_with fail
  refine (down_ok H6.out HA2.out.may).mono ?_
  rintro e w7 ⟨rfl, hat, hb⟩
  have HB7 := Lib.hid (lowb HA.out HB6.out hb (Nat.le_refl _))
  have HI := Lib.hid HA2.out.down
  have HA3 := Lib.hid HA2.out.back
  generalize x2.down 4 = x3 at *
  have H7 := Lib.hid hat
  clear hat hb H6 HB6 HA2 HN2
  go_wp2_with fail
  refine (waits_at H7.out).mono ?_
  rintro e w8 ⟨rfl, kz⟩
  rw [HI.out.1]
  have H8 := Lib.hid (H7.out.below kz)
  have HB8 := Lib.hid (HB7.out.trans (kz.mono HB7.out.size))
  clear kz H7 HB7
  go_wp2_with fail
  refine (back_ok H8.out).mono ?_
  rintro e w9 ⟨rfl, hat, hb⟩
  have HB9 := Lib.hid (lowb HA.out HB8.out hb (Nat.le_refl _))
  generalize x3.back = x4 at *
  have H9 := Lib.hid hat
  clear hat hb H8 HB8 HI
  go_wp2_with fail
  refine (count_at H9.out 4 (by rw [HA3.out.n]; omega)).mono ?_
  rintro e w' ⟨rfl, rfl⟩
  rw [HA3.out.cnt, show ((1 : UInt16).toNat : Int) = 1 from rfl]
  have HN4 := Lib.hid (show nth x4.now 1 = 16 from HA3.out.gd.n1.trans HA3.out.n)
  go_wp2_with fail
  refine (setroot_ok H9.out HA3.out.gd.nok.len (by rw [HN4.out]; omega) 2 (by omega) (by omega) 4 (.inr ⟨by omega, by rw [HN4.out]; omega⟩)).mono ?_
  rintro e w10 ⟨rfl, hat, hb⟩
  have HB10 := Lib.hid (lowb HA.out HB9.out hb (Nat.le_refl _))
  have HA5 := Lib.hid (aw3 HA3.out (by omega) (by omega))
  generalize x4.root 2 4 = x5 at *
  have H10 := Lib.hid hat
  clear hat hb H9 HB9 HA3 HN4
  go_wp2_with fail
  refine (commit_did H10.out HA5.out.1 (.inl HA5.out.2.1) HA5.out.2.2.1).mono ?_
  rintro e w11 ⟨rfl, y2, hy2, hat, ho⟩
  have HA6 := Lib.hid (HA5.out.2.2.2 y2 hy2)
  have HB11 := Lib.hid (lowo HA.out HB10.out ho (Nat.le_refl _))
  generalize x5.com y2 = x6 at *
  have H11 := Lib.hid hat
  clear hy2 hat ho H10 HB10 HA5
  go_wp2_with fail
  refine (open_yes H11.out.dk HA6.out.gd.calm.gone H11.out.lt HA6.out.gd.opens).mono ?_
  rintro e w12 ⟨A', rfl, _, hA', hat, kz⟩
  have H12 := Lib.hid (show BAt (fun k => k < w.heap.size) w12 A' x6.anew from hat)
  have HB12 := Lib.hid (HB11.out.trans (kz.mono HB11.out.size))
  have HN6 := Lib.hid (show nth x6.anew.now 1 = 16 from by rw [HA6.out.gd.anew.n1]; exact HA6.out.gd.nw.trans HA6.out.n)
  have HH := Lib.hid (show x6.anew.has 4 = blk 9 from HA6.out.has)
  have HM := Lib.hid (And.intro (show nth x6.anew.now 0 = 3 from by show nth x6.kept 0 = 3; rw [← HA6.out.same]; exact HA6.out.now0) (show nth x6.anew.now (2 + 2) = 4 from by show nth x6.kept 4 = 4; rw [← HA6.out.same]; exact HA6.out.now4))
  have HD := Lib.hid (And.intro HA6.out.gd.anew.calm.gone (HA6.out.gd.anew.dn.trans (HA6.out.gd.anew.n1.symm)))
  generalize x6.anew = x7 at *
  clear hat kz hA' H11 HB11 HA6
  go_wp2_with fail
  refine (read_at H12.out (by rw [HN6.out]; omega) HD.out.1 4 (by rw [HN6.out]; omega) HD.out.2).mono ?_
  rintro e w13 ⟨g2, c2, rfl, hby, hl2, hc1, hc2, hg2, kz⟩
  rw [HH.out] at hby
  have HBY := Lib.hid hby
  have H13 := Lib.hid (H12.out.below kz)
  have HB13 := Lib.hid (HB12.out.trans (kz.mono HB12.out.size))
  have HC := Lib.hid (And.intro hc1 (And.intro hc2 hg2))
  clear hby kz H12 HB12 hl2 hc1 hc2 hg2 HH
  go_upto_region 11 with (fail)
  refine Inv2.wp_region_inv (fun b a wy => ∃ (z : Nat → Value) (z132 : Value), a = ⟨(List.toArray ((z 0) :: Value.pointer (some ⟨A.d, 0, none⟩) :: Value.pointer (some ⟨A.b, 0, none⟩) :: Value.bool true :: Value.int IntKind.i64 4 :: Value.int IntKind.i64 0 :: Value.pointer (some ⟨A'.b, 0, none⟩) :: Value.int IntKind.i64 0 :: Value.slice (some ⟨g2, 0, none⟩) 128 c2 :: Value.int IntKind.i64 0 :: Value.tuple #[Value.pointer (some ⟨A.d, 0, none⟩), Value.pointer (some ⟨A.b, 0, none⟩), Value.bool true] :: Value.tuple #[Value.pointer (some ⟨A.d, 0, none⟩), Value.pointer (some ⟨A.b, 0, none⟩), Value.bool true] :: Value.pointer (some ⟨A.d, 0, none⟩) :: Value.pointer (some ⟨A.b, 0, none⟩) :: Value.bool true :: Value.bool true :: Value.bool false :: Value.bool false :: Value.pointer (some ⟨A.b, 0, none⟩) :: Value.int IntKind.u64 1 :: Value.bool false :: Value.bool false :: Value.bool false :: Value.pointer (some ⟨A.b, 0, none⟩) :: Value.int IntKind.i64 10 :: Value.bool false :: Value.bool false :: Value.bool false :: Value.pointer (some ⟨A.b, 0, none⟩) :: Value.int IntKind.i64 16 :: Value.bool false :: Value.bool false :: Value.tuple #[Value.int IntKind.i64 4, Value.int IntKind.i64 0] :: Value.pointer (some ⟨A.b, 0, none⟩) :: Value.slice (some ⟨g, 0, none⟩) 128 128 :: Value.tuple #[Value.int IntKind.i64 4, Value.int IntKind.i64 0] :: Value.int IntKind.i64 4 :: Value.int IntKind.i64 0 :: Value.int IntKind.i64 0 :: Value.bool false :: Value.bool false :: Value.int IntKind.i64 4 :: Value.bool false :: Value.bool false :: Value.bool false :: Value.pointer (some ⟨A.b, 0, none⟩) :: Value.int IntKind.i64 1 :: Value.bool false :: Value.bool false :: Value.bool false :: Value.pointer (some ⟨A.b, 0, none⟩) :: Value.bool true :: Value.bool false :: Value.bool false :: Value.bool false :: Value.pointer (some ⟨A.b, 0, none⟩) :: Value.int IntKind.i64 0 :: Value.bool false :: Value.bool false :: Value.bool false :: Value.pointer (some ⟨A.b, 0, none⟩) :: Value.int IntKind.u64 2 :: Value.bool false :: Value.bool false :: Value.bool false :: Value.pointer (some ⟨A.b, 0, none⟩) :: Value.int IntKind.i64 0 :: Value.bool false :: Value.bool false :: Value.bool false :: Value.pointer (some ⟨A.b, 0, none⟩) :: Value.slice (some ⟨g1, 0, none⟩) 128 128 :: Value.int IntKind.i64 110 :: Value.bool false :: Value.bool false :: Value.pointer (some ⟨A.b, 0, none⟩) :: Value.int IntKind.i64 0 :: Value.bool false :: Value.bool false :: Value.pointer (some ⟨A.b, 0, none⟩) :: Value.int IntKind.i64 1 :: Value.bool false :: Value.bool false :: Value.bool false :: Value.pointer (some ⟨A.b, 0, none⟩) :: Value.int IntKind.i64 0 :: Value.bool false :: Value.bool false :: Value.bool false :: Value.pointer (some ⟨A.b, 0, none⟩) :: Value.int IntKind.i64 1 :: Value.bool false :: Value.bool false :: Value.bool false :: Value.pointer (some ⟨A.b, 0, none⟩) :: Value.int IntKind.i64 0 :: Value.bool false :: Value.bool false :: Value.bool false :: Value.pointer (some ⟨A.b, 0, none⟩) :: Value.int IntKind.i64 0 :: Value.bool false :: Value.bool false :: Value.tuple #[Value.pointer (some ⟨A'.b, 0, none⟩), Value.int IntKind.i64 0] :: Value.pointer (some ⟨A.d, 0, none⟩) :: Value.tuple #[Value.pointer (some ⟨A'.b, 0, none⟩), Value.int IntKind.i64 0] :: Value.pointer (some ⟨A'.b, 0, none⟩) :: Value.int IntKind.i64 0 :: Value.tuple #[Value.slice (some ⟨g2, 0, none⟩) 128 c2, Value.int IntKind.i64 0] :: Value.pointer (some ⟨A'.b, 0, none⟩) :: Value.tuple #[Value.slice (some ⟨g2, 0, none⟩) 128 c2, Value.int IntKind.i64 0] :: Value.slice (some ⟨g2, 0, none⟩) 128 c2 :: Value.int IntKind.i64 0 :: (z 113) :: (z 114) :: (z 115) :: (z 116) :: (z 117) :: (z 118) :: (z 119) :: (z 120) :: (z 121) :: (z 122) :: (z 123) :: (z 124) :: (z 125) :: (z 126) :: (z 127) :: (z 128) :: (z 129) :: (z 130) :: (z 131) :: z132 :: (z 133) :: (z 134) :: (z 135) :: [])), []⟩ ∧ Hid ((b 0 = true → (z 113) = Value.int IntKind.i64 0) ∧ (b 1 = true → (z 114) = .bool true) ∧ (b 2 = true → (z 115) = .bool true) ∧ (b 3 = true → (z 116) = Value.pointer (some ⟨A'.b, 0, none⟩)) ∧ (b 4 = true → (z 117) = .int .i64 4) ∧ (b 5 = true → (z 118) = .bool true) ∧ (b 6 = true → (z 119) = .bool true) ∧ (b 7 = true → (z 120) = .bool true) ∧ (b 8 = true → (z 121) = Value.pointer (some ⟨A'.b, 0, none⟩)) ∧ (b 9 = true → (z 122) = .int .u64 3) ∧ (b 10 = true → (z 123) = .bool true) ∧ (b 11 = true → (z 124) = .bool true) ∧ (b 12 = true → (z 125) = .bool true) ∧ (b 13 = true → (z 126) = Value.int IntKind.i64 0) ∧ (b 14 = true → (z 127) = .bool true) ∧ (b 15 = true → (z 128) = .bool true) ∧ (b 16 = true → (z 129) = .bool true) ∧ (b 17 = true → (z 130) = Value.slice (some ⟨g2, 0, none⟩) 128 c2) ∧ (b 18 = true → (z 131) = .string ⟨(blk 9).toArray⟩) ∧ (b 20 = true → (z 133) = .string ⟨(blk 9).toArray⟩) ∧ (b 21 = true → (z 134) = .bool true) ∧ (b 22 = true → (z 135) = .bool true) ∧ (b 23 = true → (z 0) = .bool true)) ∧ Hid (Below w13.heap.size w13 wy) ∧ Hid ((b 19 = true → ∃ g3, z132 = .slice (some ⟨g3, 0, none⟩) 128 128 ∧ Row wy g3 (blk 9)))) (by kernel_rfl) (by kernel_rfl) ?startR ?stepsR ?doneR
  case startR =>
    intro b hb
    refine ⟨fun s => if s = 0 then Value.bool false else undef, undef, rfl, Lib.hid ⟨?_, ?_, ?_, ?_, ?_, ?_, ?_, ?_, ?_, ?_, ?_, ?_, ?_, ?_, ?_, ?_, ?_, ?_, ?_, ?_, ?_, ?_, ?_⟩, Lib.hid ((show Still w13 w13.drew from ⟨rfl, rfl, rfl, rfl⟩).below _), Lib.hid (fun e => absurd (e.symm.trans (hb 19 (by decide))) (by decide))⟩
    all_goals (intro e; first | rfl | (rw [hb _ (by decide)] at e; cases e))
  case stepsR =>
    refine ⟨?_, ?_, ?_, ?_, ?_, ?_, ?_, ?_, ?_, ?_, ?_, ?_, ?_, ?_, ?_, ?_, ?_, ?_, ?_, ?_, ?_, ?_, ?_, ?_, trivial⟩
    · rintro b a wy hb hd ⟨z, z132, rfl, HV, HW, HX⟩ K hK
      clear hd
      go_simp
      have V := HV.out
      have V10 := V.2.2.2.2.2.2.2.2.2.2
      have V20 := V10.2.2.2.2.2.2.2.2.2.2
      exact hK _ _ ⟨fun s => if s = 113 then Value.int IntKind.i64 0 else z s, _, rfl, Lib.hid ⟨fun _ => rfl, V.2.1, V.2.2.1, V.2.2.2.1, V.2.2.2.2.1, V.2.2.2.2.2.1, V.2.2.2.2.2.2.1, V.2.2.2.2.2.2.2.1, V.2.2.2.2.2.2.2.2.1, V.2.2.2.2.2.2.2.2.2.1, V10.1, V10.2.1, V10.2.2.1, V10.2.2.2.1, V10.2.2.2.2.1, V10.2.2.2.2.2.1, V10.2.2.2.2.2.2.1, V10.2.2.2.2.2.2.2.1, V10.2.2.2.2.2.2.2.2.1, V10.2.2.2.2.2.2.2.2.2.1, V20.1, V20.2.1, V20.2.2⟩, HW, HX⟩
    · rintro b a wy hb hd ⟨z, z132, rfl, HV, HW, HX⟩ K hK
      simp [Region.binds] at hd
      have e0 : (z 113) = Value.int IntKind.i64 0 := (HV.out.1) (by simp [hd])
      clear hd
      go_simp
      have V := HV.out
      have V10 := V.2.2.2.2.2.2.2.2.2.2
      have V20 := V10.2.2.2.2.2.2.2.2.2.2
      exact hK _ _ ⟨fun s => if s = 114 then .bool true else if s = 113 then Value.int IntKind.i64 0 else z s, _, rfl, Lib.hid ⟨fun _ => rfl, fun _ => rfl, V.2.2.1, V.2.2.2.1, V.2.2.2.2.1, V.2.2.2.2.2.1, V.2.2.2.2.2.2.1, V.2.2.2.2.2.2.2.1, V.2.2.2.2.2.2.2.2.1, V.2.2.2.2.2.2.2.2.2.1, V10.1, V10.2.1, V10.2.2.1, V10.2.2.2.1, V10.2.2.2.2.1, V10.2.2.2.2.2.1, V10.2.2.2.2.2.2.1, V10.2.2.2.2.2.2.2.1, V10.2.2.2.2.2.2.2.2.1, V10.2.2.2.2.2.2.2.2.2.1, V20.1, V20.2.1, V20.2.2⟩, HW, HX⟩
    · rintro b a wy hb hd ⟨z, z132, rfl, HV, HW, HX⟩ K hK
      simp [Region.binds] at hd
      have e1 : (z 114) = .bool true := (HV.out.2.1) (by simp [hd])
      clear hd
      go_simp
      have V := HV.out
      have V10 := V.2.2.2.2.2.2.2.2.2.2
      have V20 := V10.2.2.2.2.2.2.2.2.2.2
      exact hK _ _ ⟨fun s => if s = 115 then .bool true else if s = 114 then .bool true else z s, _, rfl, Lib.hid ⟨V.1, fun _ => rfl, fun _ => rfl, V.2.2.2.1, V.2.2.2.2.1, V.2.2.2.2.2.1, V.2.2.2.2.2.2.1, V.2.2.2.2.2.2.2.1, V.2.2.2.2.2.2.2.2.1, V.2.2.2.2.2.2.2.2.2.1, V10.1, V10.2.1, V10.2.2.1, V10.2.2.2.1, V10.2.2.2.2.1, V10.2.2.2.2.2.1, V10.2.2.2.2.2.2.1, V10.2.2.2.2.2.2.2.1, V10.2.2.2.2.2.2.2.2.1, V10.2.2.2.2.2.2.2.2.2.1, V20.1, V20.2.1, V20.2.2⟩, HW, HX⟩
    · rintro b a wy hb hd ⟨z, z132, rfl, HV, HW, HX⟩ K hK
      simp [Region.binds] at hd
      have e2 : (z 115) = .bool true := (HV.out.2.2.1) (by simp [hd])
      clear hd
      go_simp
      have V := HV.out
      have V10 := V.2.2.2.2.2.2.2.2.2.2
      have V20 := V10.2.2.2.2.2.2.2.2.2.2
      exact hK _ _ ⟨fun s => if s = 116 then Value.pointer (some ⟨A'.b, 0, none⟩) else if s = 115 then .bool true else z s, _, rfl, Lib.hid ⟨V.1, V.2.1, fun _ => rfl, fun _ => rfl, V.2.2.2.2.1, V.2.2.2.2.2.1, V.2.2.2.2.2.2.1, V.2.2.2.2.2.2.2.1, V.2.2.2.2.2.2.2.2.1, V.2.2.2.2.2.2.2.2.2.1, V10.1, V10.2.1, V10.2.2.1, V10.2.2.2.1, V10.2.2.2.2.1, V10.2.2.2.2.2.1, V10.2.2.2.2.2.2.1, V10.2.2.2.2.2.2.2.1, V10.2.2.2.2.2.2.2.2.1, V10.2.2.2.2.2.2.2.2.2.1, V20.1, V20.2.1, V20.2.2⟩, HW, HX⟩
    · rintro b a wy hb hd ⟨z, z132, rfl, HV, HW, HX⟩ K hK
      simp [Region.binds] at hd
      have e2 : (z 115) = .bool true := (HV.out.2.2.1) (by simp [hd])
      have e3 : (z 116) = Value.pointer (some ⟨A'.b, 0, none⟩) := (HV.out.2.2.2.1) (by simp [hd])
      clear hd
      go_simp
      go_at_call 43
      refine (root_at (H13.out.below HW.out) 2 (by omega) (by rw [HM.out.2]; omega)).mono ?_
      rintro e wz ⟨rfl, rfl⟩
      try go_simp
      rw [HM.out.2]
      have V := HV.out
      have V10 := V.2.2.2.2.2.2.2.2.2.2
      have V20 := V10.2.2.2.2.2.2.2.2.2.2
      exact hK _ _ ⟨fun s => if s = 117 then .int .i64 4 else if s = 115 then .bool true else if s = 116 then Value.pointer (some ⟨A'.b, 0, none⟩) else z s, _, rfl, Lib.hid ⟨V.1, V.2.1, fun _ => rfl, fun _ => rfl, fun _ => rfl, V.2.2.2.2.2.1, V.2.2.2.2.2.2.1, V.2.2.2.2.2.2.2.1, V.2.2.2.2.2.2.2.2.1, V.2.2.2.2.2.2.2.2.2.1, V10.1, V10.2.1, V10.2.2.1, V10.2.2.2.1, V10.2.2.2.2.1, V10.2.2.2.2.2.1, V10.2.2.2.2.2.2.1, V10.2.2.2.2.2.2.2.1, V10.2.2.2.2.2.2.2.2.1, V10.2.2.2.2.2.2.2.2.2.1, V20.1, V20.2.1, V20.2.2⟩, HW, HX⟩
    · rintro b a wy hb hd ⟨z, z132, rfl, HV, HW, HX⟩ K hK
      simp [Region.binds] at hd
      have e2 : (z 115) = .bool true := (HV.out.2.2.1) (by simp [hd])
      have e4 : (z 117) = .int .i64 4 := (HV.out.2.2.2.2.1) (by simp [hd])
      clear hd
      go_simp
      have V := HV.out
      have V10 := V.2.2.2.2.2.2.2.2.2.2
      have V20 := V10.2.2.2.2.2.2.2.2.2.2
      exact hK _ _ ⟨fun s => if s = 118 then .bool true else if s = 115 then .bool true else if s = 117 then .int .i64 4 else z s, _, rfl, Lib.hid ⟨V.1, V.2.1, fun _ => rfl, V.2.2.2.1, fun _ => rfl, fun _ => rfl, V.2.2.2.2.2.2.1, V.2.2.2.2.2.2.2.1, V.2.2.2.2.2.2.2.2.1, V.2.2.2.2.2.2.2.2.2.1, V10.1, V10.2.1, V10.2.2.1, V10.2.2.2.1, V10.2.2.2.2.1, V10.2.2.2.2.2.1, V10.2.2.2.2.2.2.1, V10.2.2.2.2.2.2.2.1, V10.2.2.2.2.2.2.2.2.1, V10.2.2.2.2.2.2.2.2.2.1, V20.1, V20.2.1, V20.2.2⟩, HW, HX⟩
    · rintro b a wy hb hd ⟨z, z132, rfl, HV, HW, HX⟩ K hK
      simp [Region.binds] at hd
      have e2 : (z 115) = .bool true := (HV.out.2.2.1) (by simp [hd])
      have e5 : (z 118) = .bool true := (HV.out.2.2.2.2.2.1) (by simp [hd])
      clear hd
      go_simp
      have V := HV.out
      have V10 := V.2.2.2.2.2.2.2.2.2.2
      have V20 := V10.2.2.2.2.2.2.2.2.2.2
      exact hK _ _ ⟨fun s => if s = 119 then .bool true else if s = 115 then .bool true else if s = 118 then .bool true else z s, _, rfl, Lib.hid ⟨V.1, V.2.1, fun _ => rfl, V.2.2.2.1, V.2.2.2.2.1, fun _ => rfl, fun _ => rfl, V.2.2.2.2.2.2.2.1, V.2.2.2.2.2.2.2.2.1, V.2.2.2.2.2.2.2.2.2.1, V10.1, V10.2.1, V10.2.2.1, V10.2.2.2.1, V10.2.2.2.2.1, V10.2.2.2.2.2.1, V10.2.2.2.2.2.2.1, V10.2.2.2.2.2.2.2.1, V10.2.2.2.2.2.2.2.2.1, V10.2.2.2.2.2.2.2.2.2.1, V20.1, V20.2.1, V20.2.2⟩, HW, HX⟩
    · rintro b a wy hb hd ⟨z, z132, rfl, HV, HW, HX⟩ K hK
      simp [Region.binds] at hd
      have e6 : (z 119) = .bool true := (HV.out.2.2.2.2.2.2.1) (by simp [hd])
      clear hd
      go_simp
      have V := HV.out
      have V10 := V.2.2.2.2.2.2.2.2.2.2
      have V20 := V10.2.2.2.2.2.2.2.2.2.2
      exact hK _ _ ⟨fun s => if s = 120 then .bool true else if s = 119 then .bool true else z s, _, rfl, Lib.hid ⟨V.1, V.2.1, V.2.2.1, V.2.2.2.1, V.2.2.2.2.1, V.2.2.2.2.2.1, fun _ => rfl, fun _ => rfl, V.2.2.2.2.2.2.2.2.1, V.2.2.2.2.2.2.2.2.2.1, V10.1, V10.2.1, V10.2.2.1, V10.2.2.2.1, V10.2.2.2.2.1, V10.2.2.2.2.2.1, V10.2.2.2.2.2.2.1, V10.2.2.2.2.2.2.2.1, V10.2.2.2.2.2.2.2.2.1, V10.2.2.2.2.2.2.2.2.2.1, V20.1, V20.2.1, V20.2.2⟩, HW, HX⟩
    · rintro b a wy hb hd ⟨z, z132, rfl, HV, HW, HX⟩ K hK
      simp [Region.binds] at hd
      have e7 : (z 120) = .bool true := (HV.out.2.2.2.2.2.2.2.1) (by simp [hd])
      clear hd
      go_simp
      have V := HV.out
      have V10 := V.2.2.2.2.2.2.2.2.2.2
      have V20 := V10.2.2.2.2.2.2.2.2.2.2
      exact hK _ _ ⟨fun s => if s = 121 then Value.pointer (some ⟨A'.b, 0, none⟩) else if s = 120 then .bool true else z s, _, rfl, Lib.hid ⟨V.1, V.2.1, V.2.2.1, V.2.2.2.1, V.2.2.2.2.1, V.2.2.2.2.2.1, V.2.2.2.2.2.2.1, fun _ => rfl, fun _ => rfl, V.2.2.2.2.2.2.2.2.2.1, V10.1, V10.2.1, V10.2.2.1, V10.2.2.2.1, V10.2.2.2.2.1, V10.2.2.2.2.2.1, V10.2.2.2.2.2.2.1, V10.2.2.2.2.2.2.2.1, V10.2.2.2.2.2.2.2.2.1, V10.2.2.2.2.2.2.2.2.2.1, V20.1, V20.2.1, V20.2.2⟩, HW, HX⟩
    · rintro b a wy hb hd ⟨z, z132, rfl, HV, HW, HX⟩ K hK
      simp [Region.binds] at hd
      have e7 : (z 120) = .bool true := (HV.out.2.2.2.2.2.2.2.1) (by simp [hd])
      have e8 : (z 121) = Value.pointer (some ⟨A'.b, 0, none⟩) := (HV.out.2.2.2.2.2.2.2.2.1) (by simp [hd])
      clear hd
      go_simp
      go_at_call 33
      refine (gen_at (H13.out.below HW.out)).mono ?_
      rintro e wz ⟨rfl, rfl⟩
      try go_simp
      rw [HM.out.1]
      have V := HV.out
      have V10 := V.2.2.2.2.2.2.2.2.2.2
      have V20 := V10.2.2.2.2.2.2.2.2.2.2
      exact hK _ _ ⟨fun s => if s = 122 then .int .u64 3 else if s = 120 then .bool true else if s = 121 then Value.pointer (some ⟨A'.b, 0, none⟩) else z s, _, rfl, Lib.hid ⟨V.1, V.2.1, V.2.2.1, V.2.2.2.1, V.2.2.2.2.1, V.2.2.2.2.2.1, V.2.2.2.2.2.2.1, fun _ => rfl, fun _ => rfl, fun _ => rfl, V10.1, V10.2.1, V10.2.2.1, V10.2.2.2.1, V10.2.2.2.2.1, V10.2.2.2.2.2.1, V10.2.2.2.2.2.2.1, V10.2.2.2.2.2.2.2.1, V10.2.2.2.2.2.2.2.2.1, V10.2.2.2.2.2.2.2.2.2.1, V20.1, V20.2.1, V20.2.2⟩, HW, HX⟩
    · rintro b a wy hb hd ⟨z, z132, rfl, HV, HW, HX⟩ K hK
      simp [Region.binds] at hd
      have e7 : (z 120) = .bool true := (HV.out.2.2.2.2.2.2.2.1) (by simp [hd])
      have e9 : (z 122) = .int .u64 3 := (HV.out.2.2.2.2.2.2.2.2.2.1) (by simp [hd])
      clear hd
      go_simp
      have V := HV.out
      have V10 := V.2.2.2.2.2.2.2.2.2.2
      have V20 := V10.2.2.2.2.2.2.2.2.2.2
      exact hK _ _ ⟨fun s => if s = 123 then .bool true else if s = 120 then .bool true else if s = 122 then .int .u64 3 else z s, _, rfl, Lib.hid ⟨V.1, V.2.1, V.2.2.1, V.2.2.2.1, V.2.2.2.2.1, V.2.2.2.2.2.1, V.2.2.2.2.2.2.1, fun _ => rfl, V.2.2.2.2.2.2.2.2.1, fun _ => rfl, fun _ => rfl, V10.2.1, V10.2.2.1, V10.2.2.2.1, V10.2.2.2.2.1, V10.2.2.2.2.2.1, V10.2.2.2.2.2.2.1, V10.2.2.2.2.2.2.2.1, V10.2.2.2.2.2.2.2.2.1, V10.2.2.2.2.2.2.2.2.2.1, V20.1, V20.2.1, V20.2.2⟩, HW, HX⟩
    · rintro b a wy hb hd ⟨z, z132, rfl, HV, HW, HX⟩ K hK
      simp [Region.binds] at hd
      have e7 : (z 120) = .bool true := (HV.out.2.2.2.2.2.2.2.1) (by simp [hd])
      have e10 : (z 123) = .bool true := (HV.out.2.2.2.2.2.2.2.2.2.2.1) (by simp [hd])
      clear hd
      go_simp
      have V := HV.out
      have V10 := V.2.2.2.2.2.2.2.2.2.2
      have V20 := V10.2.2.2.2.2.2.2.2.2.2
      exact hK _ _ ⟨fun s => if s = 124 then .bool true else if s = 120 then .bool true else if s = 123 then .bool true else z s, _, rfl, Lib.hid ⟨V.1, V.2.1, V.2.2.1, V.2.2.2.1, V.2.2.2.2.1, V.2.2.2.2.2.1, V.2.2.2.2.2.2.1, fun _ => rfl, V.2.2.2.2.2.2.2.2.1, V.2.2.2.2.2.2.2.2.2.1, fun _ => rfl, fun _ => rfl, V10.2.2.1, V10.2.2.2.1, V10.2.2.2.2.1, V10.2.2.2.2.2.1, V10.2.2.2.2.2.2.1, V10.2.2.2.2.2.2.2.1, V10.2.2.2.2.2.2.2.2.1, V10.2.2.2.2.2.2.2.2.2.1, V20.1, V20.2.1, V20.2.2⟩, HW, HX⟩
    · rintro b a wy hb hd ⟨z, z132, rfl, HV, HW, HX⟩ K hK
      simp [Region.binds] at hd
      have e11 : (z 124) = .bool true := (HV.out.2.2.2.2.2.2.2.2.2.2.2.1) (by simp [hd])
      clear hd
      go_simp
      have V := HV.out
      have V10 := V.2.2.2.2.2.2.2.2.2.2
      have V20 := V10.2.2.2.2.2.2.2.2.2.2
      exact hK _ _ ⟨fun s => if s = 125 then .bool true else if s = 124 then .bool true else z s, _, rfl, Lib.hid ⟨V.1, V.2.1, V.2.2.1, V.2.2.2.1, V.2.2.2.2.1, V.2.2.2.2.2.1, V.2.2.2.2.2.2.1, V.2.2.2.2.2.2.2.1, V.2.2.2.2.2.2.2.2.1, V.2.2.2.2.2.2.2.2.2.1, V10.1, fun _ => rfl, fun _ => rfl, V10.2.2.2.1, V10.2.2.2.2.1, V10.2.2.2.2.2.1, V10.2.2.2.2.2.2.1, V10.2.2.2.2.2.2.2.1, V10.2.2.2.2.2.2.2.2.1, V10.2.2.2.2.2.2.2.2.2.1, V20.1, V20.2.1, V20.2.2⟩, HW, HX⟩
    · rintro b a wy hb hd ⟨z, z132, rfl, HV, HW, HX⟩ K hK
      simp [Region.binds] at hd
      have e12 : (z 125) = .bool true := (HV.out.2.2.2.2.2.2.2.2.2.2.2.2.1) (by simp [hd])
      clear hd
      go_simp
      have V := HV.out
      have V10 := V.2.2.2.2.2.2.2.2.2.2
      have V20 := V10.2.2.2.2.2.2.2.2.2.2
      exact hK _ _ ⟨fun s => if s = 126 then Value.int IntKind.i64 0 else if s = 125 then .bool true else z s, _, rfl, Lib.hid ⟨V.1, V.2.1, V.2.2.1, V.2.2.2.1, V.2.2.2.2.1, V.2.2.2.2.2.1, V.2.2.2.2.2.2.1, V.2.2.2.2.2.2.2.1, V.2.2.2.2.2.2.2.2.1, V.2.2.2.2.2.2.2.2.2.1, V10.1, V10.2.1, fun _ => rfl, fun _ => rfl, V10.2.2.2.2.1, V10.2.2.2.2.2.1, V10.2.2.2.2.2.2.1, V10.2.2.2.2.2.2.2.1, V10.2.2.2.2.2.2.2.2.1, V10.2.2.2.2.2.2.2.2.2.1, V20.1, V20.2.1, V20.2.2⟩, HW, HX⟩
    · rintro b a wy hb hd ⟨z, z132, rfl, HV, HW, HX⟩ K hK
      simp [Region.binds] at hd
      have e12 : (z 125) = .bool true := (HV.out.2.2.2.2.2.2.2.2.2.2.2.2.1) (by simp [hd])
      have e13 : (z 126) = Value.int IntKind.i64 0 := (HV.out.2.2.2.2.2.2.2.2.2.2.2.2.2.1) (by simp [hd])
      clear hd
      go_simp
      have V := HV.out
      have V10 := V.2.2.2.2.2.2.2.2.2.2
      have V20 := V10.2.2.2.2.2.2.2.2.2.2
      exact hK _ _ ⟨fun s => if s = 127 then .bool true else if s = 125 then .bool true else if s = 126 then Value.int IntKind.i64 0 else z s, _, rfl, Lib.hid ⟨V.1, V.2.1, V.2.2.1, V.2.2.2.1, V.2.2.2.2.1, V.2.2.2.2.2.1, V.2.2.2.2.2.2.1, V.2.2.2.2.2.2.2.1, V.2.2.2.2.2.2.2.2.1, V.2.2.2.2.2.2.2.2.2.1, V10.1, V10.2.1, fun _ => rfl, fun _ => rfl, fun _ => rfl, V10.2.2.2.2.2.1, V10.2.2.2.2.2.2.1, V10.2.2.2.2.2.2.2.1, V10.2.2.2.2.2.2.2.2.1, V10.2.2.2.2.2.2.2.2.2.1, V20.1, V20.2.1, V20.2.2⟩, HW, HX⟩
    · rintro b a wy hb hd ⟨z, z132, rfl, HV, HW, HX⟩ K hK
      simp [Region.binds] at hd
      have e12 : (z 125) = .bool true := (HV.out.2.2.2.2.2.2.2.2.2.2.2.2.1) (by simp [hd])
      have e14 : (z 127) = .bool true := (HV.out.2.2.2.2.2.2.2.2.2.2.2.2.2.2.1) (by simp [hd])
      clear hd
      go_simp
      have V := HV.out
      have V10 := V.2.2.2.2.2.2.2.2.2.2
      have V20 := V10.2.2.2.2.2.2.2.2.2.2
      exact hK _ _ ⟨fun s => if s = 128 then .bool true else if s = 125 then .bool true else if s = 127 then .bool true else z s, _, rfl, Lib.hid ⟨V.1, V.2.1, V.2.2.1, V.2.2.2.1, V.2.2.2.2.1, V.2.2.2.2.2.1, V.2.2.2.2.2.2.1, V.2.2.2.2.2.2.2.1, V.2.2.2.2.2.2.2.2.1, V.2.2.2.2.2.2.2.2.2.1, V10.1, V10.2.1, fun _ => rfl, V10.2.2.2.1, fun _ => rfl, fun _ => rfl, V10.2.2.2.2.2.2.1, V10.2.2.2.2.2.2.2.1, V10.2.2.2.2.2.2.2.2.1, V10.2.2.2.2.2.2.2.2.2.1, V20.1, V20.2.1, V20.2.2⟩, HW, HX⟩
    · rintro b a wy hb hd ⟨z, z132, rfl, HV, HW, HX⟩ K hK
      simp [Region.binds] at hd
      have e15 : (z 128) = .bool true := (HV.out.2.2.2.2.2.2.2.2.2.2.2.2.2.2.2.1) (by simp [hd])
      clear hd
      go_simp
      have V := HV.out
      have V10 := V.2.2.2.2.2.2.2.2.2.2
      have V20 := V10.2.2.2.2.2.2.2.2.2.2
      exact hK _ _ ⟨fun s => if s = 129 then .bool true else if s = 128 then .bool true else z s, _, rfl, Lib.hid ⟨V.1, V.2.1, V.2.2.1, V.2.2.2.1, V.2.2.2.2.1, V.2.2.2.2.2.1, V.2.2.2.2.2.2.1, V.2.2.2.2.2.2.2.1, V.2.2.2.2.2.2.2.2.1, V.2.2.2.2.2.2.2.2.2.1, V10.1, V10.2.1, V10.2.2.1, V10.2.2.2.1, V10.2.2.2.2.1, fun _ => rfl, fun _ => rfl, V10.2.2.2.2.2.2.2.1, V10.2.2.2.2.2.2.2.2.1, V10.2.2.2.2.2.2.2.2.2.1, V20.1, V20.2.1, V20.2.2⟩, HW, HX⟩
    · rintro b a wy hb hd ⟨z, z132, rfl, HV, HW, HX⟩ K hK
      simp [Region.binds] at hd
      have e16 : (z 129) = .bool true := (HV.out.2.2.2.2.2.2.2.2.2.2.2.2.2.2.2.2.1) (by simp [hd])
      clear hd
      go_simp
      have V := HV.out
      have V10 := V.2.2.2.2.2.2.2.2.2.2
      have V20 := V10.2.2.2.2.2.2.2.2.2.2
      exact hK _ _ ⟨fun s => if s = 130 then Value.slice (some ⟨g2, 0, none⟩) 128 c2 else if s = 129 then .bool true else z s, _, rfl, Lib.hid ⟨V.1, V.2.1, V.2.2.1, V.2.2.2.1, V.2.2.2.2.1, V.2.2.2.2.2.1, V.2.2.2.2.2.2.1, V.2.2.2.2.2.2.2.1, V.2.2.2.2.2.2.2.2.1, V.2.2.2.2.2.2.2.2.2.1, V10.1, V10.2.1, V10.2.2.1, V10.2.2.2.1, V10.2.2.2.2.1, V10.2.2.2.2.2.1, fun _ => rfl, fun _ => rfl, V10.2.2.2.2.2.2.2.2.1, V10.2.2.2.2.2.2.2.2.2.1, V20.1, V20.2.1, V20.2.2⟩, HW, HX⟩
    · rintro b a wy hb hd ⟨z, z132, rfl, HV, HW, HX⟩ K hK
      simp [Region.binds] at hd
      have e16 : (z 129) = .bool true := (HV.out.2.2.2.2.2.2.2.2.2.2.2.2.2.2.2.2.1) (by simp [hd])
      have e17 : (z 130) = Value.slice (some ⟨g2, 0, none⟩) 128 c2 := (HV.out.2.2.2.2.2.2.2.2.2.2.2.2.2.2.2.2.2.1) (by simp [hd])
      clear hd
      have hcv := conv_run (n := 128) (length_blk 9) (HBY.out.below HBY.out.lt HW.out).told c2
      go_simp
      have V := HV.out
      have V10 := V.2.2.2.2.2.2.2.2.2.2
      have V20 := V10.2.2.2.2.2.2.2.2.2.2
      exact hK _ _ ⟨fun s => if s = 131 then .string ⟨(blk 9).toArray⟩ else if s = 129 then .bool true else if s = 130 then Value.slice (some ⟨g2, 0, none⟩) 128 c2 else z s, _, rfl, Lib.hid ⟨V.1, V.2.1, V.2.2.1, V.2.2.2.1, V.2.2.2.2.1, V.2.2.2.2.2.1, V.2.2.2.2.2.2.1, V.2.2.2.2.2.2.2.1, V.2.2.2.2.2.2.2.2.1, V.2.2.2.2.2.2.2.2.2.1, V10.1, V10.2.1, V10.2.2.1, V10.2.2.2.1, V10.2.2.2.2.1, V10.2.2.2.2.2.1, fun _ => rfl, fun _ => rfl, fun _ => rfl, V10.2.2.2.2.2.2.2.2.2.1, V20.1, V20.2.1, V20.2.2⟩, HW, HX⟩
    · rintro b a wy hb hd ⟨z, z132, rfl, HV, HW, HX⟩ K hK
      simp [Region.binds] at hd
      have e16 : (z 129) = .bool true := (HV.out.2.2.2.2.2.2.2.2.2.2.2.2.2.2.2.2.1) (by simp [hd])
      clear hd
      go_simp
      go_at_call 26
      refine (block_any 9 (by omega) wy).mono ?_
      rintro e wz ⟨g3, rfl, hg3, hrow3, kz⟩
      try go_simp
      have V := HV.out
      have V10 := V.2.2.2.2.2.2.2.2.2.2
      have V20 := V10.2.2.2.2.2.2.2.2.2.2
      exact hK _ _ ⟨fun s => if s = 129 then .bool true else z s, _, rfl, Lib.hid ⟨V.1, V.2.1, V.2.2.1, V.2.2.2.1, V.2.2.2.2.1, V.2.2.2.2.2.1, V.2.2.2.2.2.2.1, V.2.2.2.2.2.2.2.1, V.2.2.2.2.2.2.2.2.1, V.2.2.2.2.2.2.2.2.2.1, V10.1, V10.2.1, V10.2.2.1, V10.2.2.2.1, V10.2.2.2.2.1, V10.2.2.2.2.2.1, fun _ => rfl, V10.2.2.2.2.2.2.2.1, V10.2.2.2.2.2.2.2.2.1, V10.2.2.2.2.2.2.2.2.2.1, V20.1, V20.2.1, V20.2.2⟩, Lib.hid (HW.out.trans (kz.mono HW.out.size)), Lib.hid (fun _ => ⟨g3, rfl, hrow3⟩)⟩
    · rintro b a wy hb hd ⟨z, z132, rfl, HV, HW, HX⟩ K hK
      simp [Region.binds] at hd
      have e16 : (z 129) = .bool true := (HV.out.2.2.2.2.2.2.2.2.2.2.2.2.2.2.2.2.1) (by simp [hd])
      have dd19 : b 19 = true := by simp [hd]
      clear hd
      obtain ⟨g3, rfl, hr3⟩ := HX.out dd19
      have hcv := conv_run (n := 128) (length_blk 9) hr3.has.told 128
      have HR3 := Lib.hid hr3
      clear hr3
      go_simp
      have V := HV.out
      have V10 := V.2.2.2.2.2.2.2.2.2.2
      have V20 := V10.2.2.2.2.2.2.2.2.2.2
      exact hK _ _ ⟨fun s => if s = 133 then .string ⟨(blk 9).toArray⟩ else if s = 129 then .bool true else z s, _, rfl, Lib.hid ⟨V.1, V.2.1, V.2.2.1, V.2.2.2.1, V.2.2.2.2.1, V.2.2.2.2.2.1, V.2.2.2.2.2.2.1, V.2.2.2.2.2.2.2.1, V.2.2.2.2.2.2.2.2.1, V.2.2.2.2.2.2.2.2.2.1, V10.1, V10.2.1, V10.2.2.1, V10.2.2.2.1, V10.2.2.2.2.1, V10.2.2.2.2.2.1, fun _ => rfl, V10.2.2.2.2.2.2.2.1, V10.2.2.2.2.2.2.2.2.1, fun _ => rfl, V20.1, V20.2.1, V20.2.2⟩, HW, Lib.hid (fun _ => ⟨g3, rfl, HR3.out⟩)⟩
    · rintro b a wy hb hd ⟨z, z132, rfl, HV, HW, HX⟩ K hK
      simp [Region.binds] at hd
      have e16 : (z 129) = .bool true := (HV.out.2.2.2.2.2.2.2.2.2.2.2.2.2.2.2.2.1) (by simp [hd])
      have e18 : (z 131) = .string ⟨(blk 9).toArray⟩ := (HV.out.2.2.2.2.2.2.2.2.2.2.2.2.2.2.2.2.2.2.1) (by simp [hd])
      have e20 : (z 133) = .string ⟨(blk 9).toArray⟩ := (HV.out.2.2.2.2.2.2.2.2.2.2.2.2.2.2.2.2.2.2.2.1) (by simp [hd])
      clear hd
      have hs : ((blk 9).toArray == (blk 9).toArray) = true := beq_self_eq_true _
      go_simp
      have V := HV.out
      have V10 := V.2.2.2.2.2.2.2.2.2.2
      have V20 := V10.2.2.2.2.2.2.2.2.2.2
      exact hK _ _ ⟨fun s => if s = 134 then .bool true else if s = 129 then .bool true else if s = 131 then .string ⟨(blk 9).toArray⟩ else if s = 133 then .string ⟨(blk 9).toArray⟩ else z s, _, rfl, Lib.hid ⟨V.1, V.2.1, V.2.2.1, V.2.2.2.1, V.2.2.2.2.1, V.2.2.2.2.2.1, V.2.2.2.2.2.2.1, V.2.2.2.2.2.2.2.1, V.2.2.2.2.2.2.2.2.1, V.2.2.2.2.2.2.2.2.2.1, V10.1, V10.2.1, V10.2.2.1, V10.2.2.2.1, V10.2.2.2.2.1, V10.2.2.2.2.2.1, fun _ => rfl, V10.2.2.2.2.2.2.2.1, fun _ => rfl, fun _ => rfl, fun _ => rfl, V20.2.1, V20.2.2⟩, HW, HX⟩
    · rintro b a wy hb hd ⟨z, z132, rfl, HV, HW, HX⟩ K hK
      simp [Region.binds] at hd
      have e16 : (z 129) = .bool true := (HV.out.2.2.2.2.2.2.2.2.2.2.2.2.2.2.2.2.1) (by simp [hd])
      have e21 : (z 134) = .bool true := (HV.out.2.2.2.2.2.2.2.2.2.2.2.2.2.2.2.2.2.2.2.2.1) (by simp [hd])
      clear hd
      go_simp
      have V := HV.out
      have V10 := V.2.2.2.2.2.2.2.2.2.2
      have V20 := V10.2.2.2.2.2.2.2.2.2.2
      exact hK _ _ ⟨fun s => if s = 135 then .bool true else if s = 129 then .bool true else if s = 134 then .bool true else z s, _, rfl, Lib.hid ⟨V.1, V.2.1, V.2.2.1, V.2.2.2.1, V.2.2.2.2.1, V.2.2.2.2.2.1, V.2.2.2.2.2.2.1, V.2.2.2.2.2.2.2.1, V.2.2.2.2.2.2.2.2.1, V.2.2.2.2.2.2.2.2.2.1, V10.1, V10.2.1, V10.2.2.1, V10.2.2.2.1, V10.2.2.2.2.1, V10.2.2.2.2.2.1, fun _ => rfl, V10.2.2.2.2.2.2.2.1, V10.2.2.2.2.2.2.2.2.1, V10.2.2.2.2.2.2.2.2.2.1, fun _ => rfl, fun _ => rfl, V20.2.2⟩, HW, HX⟩
    · rintro b a wy hb hd ⟨z, z132, rfl, HV, HW, HX⟩ K hK
      simp [Region.binds] at hd
      have e22 : (z 135) = .bool true := (HV.out.2.2.2.2.2.2.2.2.2.2.2.2.2.2.2.2.2.2.2.2.2.1) (by simp [hd])
      clear hd
      go_simp
      have V := HV.out
      have V10 := V.2.2.2.2.2.2.2.2.2.2
      have V20 := V10.2.2.2.2.2.2.2.2.2.2
      exact hK _ _ ⟨fun s => if s = 0 then .bool true else if s = 135 then .bool true else z s, _, rfl, Lib.hid ⟨V.1, V.2.1, V.2.2.1, V.2.2.2.1, V.2.2.2.2.1, V.2.2.2.2.2.1, V.2.2.2.2.2.2.1, V.2.2.2.2.2.2.2.1, V.2.2.2.2.2.2.2.2.1, V.2.2.2.2.2.2.2.2.2.1, V10.1, V10.2.1, V10.2.2.1, V10.2.2.2.1, V10.2.2.2.2.1, V10.2.2.2.2.2.1, V10.2.2.2.2.2.2.1, V10.2.2.2.2.2.2.2.1, V10.2.2.2.2.2.2.2.2.1, V10.2.2.2.2.2.2.2.2.2.1, V20.1, fun _ => rfl, fun _ => rfl⟩, HW, HX⟩
  case doneR =>
    rintro b a wy hb ⟨z, z132, rfl, HV, HW, HX⟩
    have e0 := (HV.out.1) (hb 0)
    have e1 := (HV.out.2.1) (hb 1)
    have e2 := (HV.out.2.2.1) (hb 2)
    have e3 := (HV.out.2.2.2.1) (hb 3)
    have e4 := (HV.out.2.2.2.2.1) (hb 4)
    have e5 := (HV.out.2.2.2.2.2.1) (hb 5)
    have e6 := (HV.out.2.2.2.2.2.2.1) (hb 6)
    have e7 := (HV.out.2.2.2.2.2.2.2.1) (hb 7)
    have e8 := (HV.out.2.2.2.2.2.2.2.2.1) (hb 8)
    have e9 := (HV.out.2.2.2.2.2.2.2.2.2.1) (hb 9)
    have e10 := (HV.out.2.2.2.2.2.2.2.2.2.2.1) (hb 10)
    have e11 := (HV.out.2.2.2.2.2.2.2.2.2.2.2.1) (hb 11)
    have e12 := (HV.out.2.2.2.2.2.2.2.2.2.2.2.2.1) (hb 12)
    have e13 := (HV.out.2.2.2.2.2.2.2.2.2.2.2.2.2.1) (hb 13)
    have e14 := (HV.out.2.2.2.2.2.2.2.2.2.2.2.2.2.2.1) (hb 14)
    have e15 := (HV.out.2.2.2.2.2.2.2.2.2.2.2.2.2.2.2.1) (hb 15)
    have e16 := (HV.out.2.2.2.2.2.2.2.2.2.2.2.2.2.2.2.2.1) (hb 16)
    have e17 := (HV.out.2.2.2.2.2.2.2.2.2.2.2.2.2.2.2.2.2.1) (hb 17)
    have e18 := (HV.out.2.2.2.2.2.2.2.2.2.2.2.2.2.2.2.2.2.2.1) (hb 18)
    have e20 := (HV.out.2.2.2.2.2.2.2.2.2.2.2.2.2.2.2.2.2.2.2.1) (hb 20)
    have e21 := (HV.out.2.2.2.2.2.2.2.2.2.2.2.2.2.2.2.2.2.2.2.2.1) (hb 21)
    have e22 := (HV.out.2.2.2.2.2.2.2.2.2.2.2.2.2.2.2.2.2.2.2.2.2.1) (hb 22)
    have e23 := (HV.out.2.2.2.2.2.2.2.2.2.2.2.2.2.2.2.2.2.2.2.2.2.2) (hb 23)
    simp only [e0, e1, e2, e3, e4, e5, e6, e7, e8, e9, e10, e11, e12, e13, e14, e15, e16, e17, e18, e20, e21, e22, e23]
    clear HV e0 e1 e2 e3 e4 e5 e6 e7 e8 e9 e10 e11 e12 e13 e14 e15 e16 e17 e18 e20 e21 e22 e23
    clear hb HX
    go_wp2_with fail
    go_ret
    exact ⟨rfl, HB13.out.trans (HW.out.mono HB13.out.size)⟩
end Go.Proofs.YtogchamogbendaaGreat.Bs
/- Mathematics of BaseRoom: a base is filled, committed, some of its blocks are let go, committed. -/
namespace Go.Proofs.YtogchamogbendaaGreat.Bs
set_option maxRecDepth 100000
open Go.RowKit Go.Proofs.YtogchamogbendaaGreat.Oct Go.Proofs.YtogchamogbendaaGreat.Mv Go.Proofs.YtogchamogbendaaGreat.Tl Go.Proofs.YtogchamogbendaaGreat.Pk Go.Proofs.YtogchamogbendaaGreat.Pl Go.Maps Go.ChangeMaps
open Go.Proofs.YtogchamogbendaaGreat.Dsk (dT)
open Go.Proofs.YtogchamogbendaaGreat.Su (Sup nth)
set_option linter.unusedVariables false
set_option linter.unusedSimpArgs false

/-- Blocks were put alone, and nothing waits. -/
structure Fill (n : Nat) (x : BS) (l : List Nat) : Prop where
  g : Good x
  xn : x.n = n
  now0 : nth x.now 0 = 1
  room : x.q.room + l.length = n - 2 - need n
  data : ∀ b ∈ l, 2 ≤ b ∧ b < n ∧ x.q.s.cnt b = 1 ∧ b ∉ x.l1 ++ x.l2
  nw : ∀ j, x.q.s.cnt j = 0 → x.q.s.was j = 0
theorem fill_made {n : Nat} {y : Wk} (h1 : 16 ≤ n) (h2 : n ≤ 400) (hr : Begun0 n y) : Fill n (made0 n y) [] := by
  have hg := made_good h1 h2 hr
  obtain ⟨r1, r2⟩ := made_room h1 h2 hr
  have hf := fmtY h1 h2 hr
  have hl2 : y.l2.length ≤ 2 := by rw [hf.len2]; unfold pg; omega
  refine ⟨hg, r2, ?_, ?_, fun b hb => (by cases hb), fun j hj => hj⟩
  · show nth (leadS (sup0 n) y.l2) 0 = 1
    rw [leadS_low (by simp [sup0]) 0 (by omega)]
    rfl
  · rw [List.length_nil]
    omega
theorem Fill.zero {n : Nat} {x : BS} {l : List Nat} (h : Fill n x l) : zeroQ x.q = x.q.room := by
  unfold Q.room St.count zeroQ
  congr 1
  funext j
  unfold Tl.St.free Pl.St.zero
  cases e : (x.q.s.cnt j == 0)
  · rfl
  · have : x.q.s.cnt j = 0 := by simpa using e
    rw [h.nw j this]
    rfl
theorem Fill.put {n : Nat} {x : BS} {l : List Nat} (h : Fill n x l) {b : Nat} (hb : x.q.Found b) (hr : need n < x.q.room) {bs : List UInt8} (hl : bs.length = 128) : Fill n (x.put b bs) (l ++ [b]) := by
  have hlo := hb.lo h.g.sd.ok
  rw [h.g.sd.first] at hlo
  have hrt := room_took h.g.sd.ok hb
  have hbn : b < n := by have := hb.1; have e := h.xn; unfold BS.n at e; omega
  have hc : ∀ j, (x.put b bs).q.s.cnt j = if j = b then x.q.s.cnt b + 1 else x.q.s.cnt j := fun j => cnt_put hb.1 j
  have h0 : x.q.s.cnt b = 0 := cnt_free hb.2.1
  have hnp : b ∉ x.l1 ++ x.l2 := fun hm => by
    obtain ⟨i, hi, e⟩ := List.mem_iff_getElem.1 hm
    have := (h.g.sd.one i hi).2.2.1
    rw [show (x.l1 ++ x.l2).getD i 0 = b by rw [List.getD_eq_getElem?_getD, List.getElem?_eq_getElem hi]; exact e, h0] at this
    exact absurd this (by decide)
  refine ⟨h.g.put hb (by rw [h.xn]; exact hr) hl, (n_took _ _).trans h.xn, h.now0, ?_, fun k hk => ?_, fun j hj => ?_⟩
  · show (x.q.took b).room + (l ++ [b]).length = _
    have := h.room
    rw [List.length_append, List.length_singleton]
    omega
  · rcases List.mem_append.1 hk with hk | hk
    · obtain ⟨k1, k2, k3, k4⟩ := h.data k hk
      refine ⟨k1, k2, ?_, k4⟩
      rw [hc, if_neg (fun e => by rw [e, h0] at k3; exact absurd k3 (by decide))]
      exact k3
    · rw [List.mem_singleton] at hk
      subst hk
      exact ⟨hlo, hbn, by rw [hc, if_pos rfl, h0]; rfl, hnp⟩
  · rw [hc] at hj
    show x.q.s.was j = 0
    by_cases e : j = b
    · rw [if_pos e, h0] at hj
      exact absurd hj (by decide)
    · rw [if_neg e] at hj
      exact h.nw j hj
/-- All is committed, but for some blocks that were let go. -/
structure Kept (n c : Nat) (x : BS) (l : List Nat) (m : Nat) : Prop where
  g : Good x
  xn : x.n = n
  now0 : nth x.now 0 ≤ c
  room : x.q.room = need n
  zero : zeroQ x.q = need n + m
  idle : x.q.s.idle = m
  data : ∀ b ∈ l, 2 ≤ b ∧ b < n ∧ (x.q.s.cnt b = 1 ∨ x.q.s.cnt b = 0) ∧ x.q.s.was b = 1 ∧ b ∉ x.l1 ++ x.l2
theorem Fill.kept {n : Nat} {x x' : BS} {l : List Nat} (h : Fill n x l) (hr : x.q.room = need n) (hc : Commits x x') : Kept n 2 x' l 0 := by
  have h0 := h.now0
  rcases hc with ⟨rfl, he, hch⟩ | ⟨y, hy, rfl⟩
  · refine ⟨h.g, h.xn, by omega, hr, by rw [h.zero, hr]; rfl, idle_still hch, fun b hb => ?_⟩
    obtain ⟨k1, k2, k3, k4⟩ := h.data b hb
    refine ⟨k1, k2, .inl k3, ?_, k4⟩
    cases e : x'.q.s.moved b with
    | true =>
      have : b ∈ x'.q.s.changed := mem_changed.2 ⟨by have := h.xn; unfold BS.n at this; omega, e⟩
      rw [hch] at this
      cases this
    | false =>
      have : x'.q.s.cnt b = x'.q.s.was b := by unfold Tl.St.moved at e; simpa using e
      rw [← this]
      exact k3
  · refine ⟨hy.good, hy.yn.trans h.xn, ?_, ?_, ?_, idle_keep _, fun b hb => ?_⟩
    · show nth (nextS x y) 0 ≤ 2
      rw [hy.next0]
      omega
    · show (Q.keep y.q).room = need n
      rw [hy.room, h.zero, hr]
    · show zeroQ (Q.keep y.q) = need n + 0
      rw [zero_kept (fun j => rfl), hy.room, h.zero, hr]
      rfl
    · obtain ⟨k1, k2, k3, k4⟩ := h.data b hb
      have hnp := hy.page k4 (by rw [k3]; decide)
      have hcn : y.q.s.cnt b = 1 := (hy.cnt k4 hnp).trans k3
      exact ⟨k1, k2, .inl hcn, hcn, hnp⟩
theorem Kept.may {n c : Nat} {x : BS} {l : List Nat} {m : Nat} (h : Kept n c x l m) {b : Nat} (hb : b ∈ l) (h1 : x.q.s.cnt b ≠ 0) : x.May b := by
  obtain ⟨k1, k2, k3, k4, k5⟩ := h.data b hb
  exact h.g.may k1 (by rw [h.xn]; exact k2) k5 h1
theorem Kept.down {n c : Nat} {x : BS} {l : List Nat} {m : Nat} (h : Kept n c x l m) {b : Nat} (hb : b ∈ l) (h1 : x.q.s.cnt b ≠ 0) : Kept n c (x.down b) l (m + 1) := by
  have hm := h.may hb h1
  have hgd := h.g.down hm
  obtain ⟨k1, k2, k3, k4, k5⟩ := h.data b hb
  have hc1 : x.q.s.cnt b = 1 := k3.resolve_right h1
  have hbx : b < x.n := by rw [h.xn]; exact k2
  have e : x.down b = (x.cnt b 0).setF (upd x.fr b none) := by unfold BS.down; rw [if_pos hc1]
  rw [e] at hgd ⊢
  have hw : x.q.s.was b ≠ 0 := by rw [k4]; decide
  refine ⟨hgd, (cnt_n x b 0).trans h.xn, h.now0, ?_, ?_, ?_, fun j hj => ?_⟩
  · show (x.cnt b 0).q.room = need n
    rw [cnt_room_eq x hbx (.inr hw) h1, h.room]
  · show zeroQ ⟨x.q.s.put b 0, x.q.first, x.q.next, x.q.asked⟩ = _
    rw [zero_put hbx (by rw [h.g.sd.first]; exact k1) h1, h.zero]
    omega
  · show (x.q.s.put b 0).idle = m + 1
    rw [idle_put hbx h1 hw, h.idle]
  · obtain ⟨j1, j2, j3, j4, j5⟩ := h.data j hj
    refine ⟨j1, j2, ?_, j4, j5⟩
    show (x.q.s.put b 0).cnt j = 1 ∨ (x.q.s.put b 0).cnt j = 0
    rw [cnt_put hbx]
    split
    · exact .inr rfl
    · exact j3
/-- There is room for so many blocks yet. -/
structure Roomy (n c : Nat) (x : BS) (m : Nat) : Prop where
  g : Good x
  xn : x.n = n
  now0 : nth x.now 0 ≤ c
  room : x.q.room = need n + m
theorem Kept.roomy {n c : Nat} {x x' : BS} {l : List Nat} {m : Nat} (h : Kept n c x l m) (hc : Commits x x') : Roomy n (c + 1) x' m := by
  have h0 := h.now0
  rcases hc with ⟨rfl, he, hch⟩ | ⟨y, hy, rfl⟩
  · have : m = 0 := by rw [← h.idle]; exact idle_still hch
    subst this
    exact ⟨h.g, h.xn, by omega, h.room⟩
  · refine ⟨hy.good, hy.yn.trans h.xn, ?_, ?_⟩
    · show nth (nextS x y) 0 ≤ c + 1
      rw [hy.next0]
      omega
    · show (Q.keep y.q).room = _
      rw [hy.room, h.zero]
theorem Roomy.put {n c : Nat} {x : BS} {m : Nat} (h : Roomy n c x (m + 1)) {b : Nat} (hb : x.q.Found b) {bs : List UInt8} (hl : bs.length = 128) : Roomy n c (x.put b bs) m := by
  have hrt := room_took h.g.sd.ok hb
  have hr := h.room
  refine ⟨h.g.put hb (by rw [h.xn]; omega) hl, (n_took _ _).trans h.xn, h.now0, ?_⟩
  show (x.q.took b).room = _
  omega
/-! ### A list of numbers that the law itself grows -/
theorem OwnI.butL {w w' : World} {base : Nat} {v : Value} {l : List Int} (h : OwnI w base v l) {L : List Nat} (k : ButL w w' L) (hL : ∀ x ∈ L, x < base) : OwnI w' base v l := by
  refine ⟨h.1, ?_⟩
  rcases h.2 with hn | ⟨g, cap, cur, rfl, hb, hgg, rest⟩
  · exact .inl hn
  · refine .inr ⟨g, cap, cur, rfl, hb, ?_, rest⟩
    rw [k.block g (Array.getElem?_eq_some_iff.1 hgg).1 (fun hm => by have := hL g hm; omega)]
    exact hgg
theorem OwnI.off {w w' : World} {base : Nat} {v : Value} {l : List Int} (h : OwnI w base v l) {L : List Nat} {Pr : Nat → Prop} (k : Off dT Pr L w w') (hL : ∀ x ∈ L, x < base) : OwnI w' base v l := by
  refine ⟨h.1, ?_⟩
  rcases h.2 with hn | ⟨g, cap, cur, rfl, hb, hgg, rest⟩
  · exact .inl hn
  · refine .inr ⟨g, cap, cur, rfl, hb, ?_, rest⟩
    rw [k.block g (Array.getElem?_eq_some_iff.1 hgg).1 (fun hm => by have := hL g hm; omega) (.inr fun cs t fr e => by rw [hgg] at e; cases e; rfl)]
    exact hgg
def slen : Value → Nat
  | .slice _ n _ => n
  | _ => 0
theorem OwnI.slen {w : World} {base : Nat} {v : Value} {l : List Int} (h : OwnI w base v l) : slen v = l.length := by
  rcases h.2 with ⟨rfl, e⟩ | ⟨g, cap, cur, rfl, _⟩
  · exact e.symm
  · rfl
end Go.Proofs.YtogchamogbendaaGreat.Bs
/- Layer 11: what a Put turns, to the letter; rows of numbers of the law's own beside a base. (put_sharp: written by bin/gen_btj.py out of XBsG.) -/
namespace Go.Proofs.YtogchamogbendaaGreat.Bs
set_option maxRecDepth 100000
open Go.RowKit Go.Proofs.YtogchamogbendaaGreat.Oct Go.Proofs.YtogchamogbendaaGreat.Mv Go.Proofs.YtogchamogbendaaGreat.Tl Go.Proofs.YtogchamogbendaaGreat.Pk Go.Proofs.YtogchamogbendaaGreat.Pl Go.Maps Go.ChangeMaps
open Go.Proofs.YtogchamogbendaaGreat.Dsk (dT)
open Go.Proofs.YtogchamogbendaaGreat.Su (Sup nth scells scell)
set_option linter.unusedVariables false
set_option linter.unusedSimpArgs false

def PutS (Pr : Nat → Prop) (A : Adr) (x : BS) (bs : List UInt8) (w : World) (e : Ending) (w' : World) : Prop := ∃ b, e = .returned (.tuple #[.int .i64 ((b : Nat) : Int), .int .i64 0]) ∧ x.q.Found b ∧ BAt Pr w' A (x.put b bs) ∧ ButL w w' [A.cb, A.mb, A.p, A.fm]
section
variable {Pr : Nat → Prop} {w w' : World} {A : Adr} {x : BS}
set_option maxHeartbeats 1000000 in
theorem put_sharp (h : BAt Pr w A x) (hn : nth x.now 1 ≤ 4096) (he : nth x.now 1 = x.n) (hr : need x.n < x.q.room) {Ad : Option Addr} {c : Nat} {bs : List UInt8} (hl : bs.length = 128) (hT : ∀ w', ButL w w' [A.cb, A.mb, A.p] → Oct.Told w' Ad bs) :
    Calls Tryz.prog 25 #[.pointer (some ⟨A.b, 0, none⟩), .slice Ad 128 c] w (PutS Pr A x bs w) := by
  have H := Lib.hid h
  have HE := Lib.hid he
  have HR := Lib.hid hr
  have HT := Lib.hid hT
  have c2 := h.c2
  have HN4 := Lib.hid (show x.q.s.n ≤ 4096 from h.pat.ok.s.hi)
  obtain ⟨k, hk⟩ : ∃ k : Nat, x.q.room - need x.n = k + 1 := ⟨x.q.room - need x.n - 1, by omega⟩
  have HK := Lib.hid hk
  clear h he hr hT hk
  go_enter Tryz.func25, Tryz.ntmps25
  go_wp2_with fail
  refine (stop_at H.out).mono ?_
  rintro e w' ⟨rfl, rfl⟩
  go_wp2_with fail
  refine (room_at H.out hn HE.out (Nat.le_of_lt HR.out)).mono ?_
  rintro e w' ⟨rfl, rfl⟩
  rw [HK.out]
  have hk1 : ¬ (((k + 1 : Nat) : Int) = 0) := by omega
  have hk2 : (((k + 1 : Nat) : Int) == 0) = false := by rw [beq_eq_false_iff_ne]; exact hk1
  go_wp2_with fail
  refine (take_some H.out.pat (by have := HR.out; omega)).mono ?_
  rintro e w1 ⟨bk, rfl, hb, hp, hk⟩
  have H1 := Lib.hid (H.out.turn3 hp hk)
  have HB := Lib.hid hb
  have HK1 := Lib.hid (ButL.of_but3 hk)
  have hb4 : bk ≤ 4096 := by have := hb.1; have := HN4.out; omega
  clear hp hk hb c2 hk1 hk2 H
  go_upto_region 9 with (fail)
  refine Inv2.wp_region_inv (fun b a wy => ∃ (z : Nat → Value) (z36 : Value), a = ⟨(List.toArray (Value.pointer (some ⟨A.b, 0, none⟩) :: Value.slice Ad 128 c :: undef :: undef :: Value.int IntKind.i64 0 :: Value.int IntKind.i64 0 :: Value.int IntKind.i64 0 :: Value.int IntKind.i64 ↑bk :: Value.int IntKind.i64 0 :: Value.pointer (some ⟨A.b, 0, none⟩) :: Value.int IntKind.i64 0 :: Value.int IntKind.i64 0 :: Value.bool false :: undef :: Value.bool false :: Value.slice Ad 128 c :: Value.int IntKind.i64 128 :: Value.bool false :: Value.bool false :: Value.pointer (some ⟨A.b, 0, none⟩) :: Value.int IntKind.i64 (↑k + 1) :: Value.bool false :: Value.tuple #[Value.int IntKind.i64 ↑bk, Value.int IntKind.i64 0] :: Value.pointer (some ⟨A.b, 0, none⟩) :: Value.pointer (some ⟨A.b, 0, none⟩) :: Value.pointer (some ⟨A.b, 2, none⟩) :: Value.pointer (some ⟨A.p, 0, none⟩) :: Value.tuple #[Value.int IntKind.i64 ↑bk, Value.int IntKind.i64 0] :: Value.int IntKind.i64 ↑bk :: Value.int IntKind.i64 0 :: (z 30) :: (z 31) :: (z 32) :: (z 33) :: (z 34) :: (z 35) :: z36 :: undef :: [])), []⟩ ∧ Hid ((b 0 = true → (z 30) = Value.pointer (some ⟨A.b, 0, none⟩)) ∧ (b 1 = true → (z 31) = Value.pointer (some ⟨A.b, 0, none⟩)) ∧ (b 2 = true → (z 32) = Value.pointer (some ⟨A.b, 41, none⟩)) ∧ (b 3 = true → (z 33) = Value.map (some A.fm)) ∧ (b 4 = true → (z 34) = Value.int IntKind.i64 ↑bk) ∧ (b 5 = true → (z 35) = Value.slice Ad 128 c)) ∧ Hid (Below 0 w1 wy) ∧ Hid ((b 7 = false → BAt Pr wy A (x.setQ (x.q.took bk)) ∧ ButL w1 wy []) ∧ (b 7 = true → b 6 = true ∧ BAt Pr wy A (x.put bk bs) ∧ ButL w1 wy [A.fm]) ∧ (b 6 = true → b 7 = false → ∃ g c', z36 = .slice (some ⟨g, 0, none⟩) 128 c' ∧ Byt wy g bs ∧ 128 ≤ c' ∧ c' ≤ maxLen))) (by kernel_rfl) (by kernel_rfl) ?startM ?stepsM ?doneM
  case startM =>
    intro b hb
    refine ⟨fun s => undef, undef, rfl, Lib.hid ⟨?_, ?_, ?_, ?_, ?_, ?_⟩, Lib.hid ((show Still w1 w1.drew from ⟨rfl, rfl, rfl, rfl⟩).below _), Lib.hid (⟨fun _ => ⟨H1.out.still ⟨rfl, rfl, rfl, rfl⟩, ButL.still _ ⟨rfl, rfl, rfl, rfl⟩⟩, fun e => absurd (e.symm.trans (hb 7 (by decide))) (by decide), fun e => absurd (e.symm.trans (hb 6 (by decide))) (by decide)⟩)⟩
    all_goals (intro e; first | rfl | (rw [hb _ (by decide)] at e; cases e))
  case stepsM =>
    refine ⟨?_, ?_, ?_, ?_, ?_, ?_, ?_, ?_, trivial⟩
    · rintro b a wy hb hd ⟨z, z36, rfl, HV, HW, HX⟩ K hK
      clear hd
      go_simp
      have V := HV.out
      exact hK _ _ ⟨fun s => if s = 30 then Value.pointer (some ⟨A.b, 0, none⟩) else z s, _, rfl, Lib.hid ⟨fun _ => rfl, V.2.1, V.2.2.1, V.2.2.2.1, V.2.2.2.2.1, V.2.2.2.2.2⟩, HW, HX⟩
    · rintro b a wy hb hd ⟨z, z36, rfl, HV, HW, HX⟩ K hK
      simp [Region.binds] at hd
      have e0 : (z 30) = Value.pointer (some ⟨A.b, 0, none⟩) := (HV.out.1) (by simp [hd])
      clear hd
      go_simp
      have V := HV.out
      exact hK _ _ ⟨fun s => if s = 31 then Value.pointer (some ⟨A.b, 0, none⟩) else if s = 30 then Value.pointer (some ⟨A.b, 0, none⟩) else z s, _, rfl, Lib.hid ⟨fun _ => rfl, fun _ => rfl, V.2.2.1, V.2.2.2.1, V.2.2.2.2.1, V.2.2.2.2.2⟩, HW, HX⟩
    · rintro b a wy hb hd ⟨z, z36, rfl, HV, HW, HX⟩ K hK
      simp [Region.binds] at hd
      have e1 : (z 31) = Value.pointer (some ⟨A.b, 0, none⟩) := (HV.out.2.1) (by simp [hd])
      clear hd
      go_simp
      have V := HV.out
      exact hK _ _ ⟨fun s => if s = 32 then Value.pointer (some ⟨A.b, 41, none⟩) else if s = 31 then Value.pointer (some ⟨A.b, 0, none⟩) else z s, _, rfl, Lib.hid ⟨V.1, fun _ => rfl, fun _ => rfl, V.2.2.2.1, V.2.2.2.2.1, V.2.2.2.2.2⟩, HW, HX⟩
    · rintro b a wy hb hd ⟨z, z36, rfl, HV, HW, HX⟩ K hK
      simp [Region.binds] at hd
      have e2 : (z 32) = Value.pointer (some ⟨A.b, 41, none⟩) := (HV.out.2.2.1) (by simp [hd])
      clear hd
      have c41 : wy.cell? ⟨A.b, 41, none⟩ = some (.map (some A.fm)) := by
        rcases Bool.eq_false_or_eq_true (b 7) with b7 | b7
        · exact (HX.out.2.1 b7).2.1.c41
        · exact (HX.out.1 b7).1.c41
      go_simp
      have V := HV.out
      exact hK _ _ ⟨fun s => if s = 33 then Value.map (some A.fm) else if s = 32 then Value.pointer (some ⟨A.b, 41, none⟩) else z s, _, rfl, Lib.hid ⟨V.1, V.2.1, fun _ => rfl, fun _ => rfl, V.2.2.2.2.1, V.2.2.2.2.2⟩, HW, HX⟩
    · rintro b a wy hb hd ⟨z, z36, rfl, HV, HW, HX⟩ K hK
      clear hd
      go_simp
      have V := HV.out
      exact hK _ _ ⟨fun s => if s = 34 then Value.int IntKind.i64 ↑bk else z s, _, rfl, Lib.hid ⟨V.1, V.2.1, V.2.2.1, V.2.2.2.1, fun _ => rfl, V.2.2.2.2.2⟩, HW, HX⟩
    · rintro b a wy hb hd ⟨z, z36, rfl, HV, HW, HX⟩ K hK
      clear hd
      go_simp
      have V := HV.out
      exact hK _ _ ⟨fun s => if s = 35 then Value.slice Ad 128 c else z s, _, rfl, Lib.hid ⟨V.1, V.2.1, V.2.2.1, V.2.2.2.1, V.2.2.2.2.1, fun _ => rfl⟩, HW, HX⟩
    · rintro b a wy hb hd ⟨z, z36, rfl, HV, HW, HX⟩ K hK
      simp [Region.binds] at hd
      have e5 : (z 35) = Value.slice Ad 128 c := (HV.out.2.2.2.2.2) (by simp [hd])
      clear hd
      have b7 : b 7 = false := by
        rcases Bool.eq_false_or_eq_true (b 7) with b7 | b7
        · exact absurd (hb.symm.trans (HX.out.2.1 b7).1) (by decide)
        · exact b7
      go_simp
      go_at_call 97
      refine (clone_any (c := c) hl (HT.out _ (HK1.out.trans ((HX.out.1 b7).2.mono (by simp))))).mono ?_
      rintro e wz ⟨g, c', rfl, hby, k1, k2, k3, kz⟩
      try go_simp
      have V := HV.out
      exact hK _ _ ⟨fun s => if s = 35 then Value.slice Ad 128 c else z s, _, rfl, Lib.hid ⟨V.1, V.2.1, V.2.2.1, V.2.2.2.1, V.2.2.2.2.1, fun _ => rfl⟩, Lib.hid (HW.out.trans (kz.mono (Nat.zero_le _))), Lib.hid ⟨fun _ => ⟨(HX.out.1 b7).1.below kz, (HX.out.1 b7).2.trans (ButL.of_below _ kz (Nat.le_refl _))⟩, fun e => absurd (e.symm.trans b7) (by decide), fun _ _ => ⟨g, c', rfl, hby, k1, k2⟩⟩⟩
    · rintro b a wy hb hd ⟨z, z36, rfl, HV, HW, HX⟩ K hK
      simp [Region.binds] at hd
      have e3 : (z 33) = Value.map (some A.fm) := (HV.out.2.2.2.1) (by simp [hd])
      have e4 : (z 34) = Value.int IntKind.i64 ↑bk := (HV.out.2.2.2.2.1) (by simp [hd])
      have dd6 : b 6 = true := by simp [hd]
      clear hd
      obtain ⟨HA7, HK7⟩ := HX.out.1 hb
      obtain ⟨g, c', zz, hby, k1, k2⟩ := HX.out.2.2 dd6 hb
      subst zz
      obtain ⟨w4, hrun, hf4, hk4⟩ := fm_put HA7.fm bk hb4 bs hl g c' hby k1 k2
      have H4 := Lib.hid (show BAt Pr w4 A (x.put bk bs) from HA7.turnF hf4 hk4)
      have HK4 := Lib.hid (show ButL w1 w4 [A.fm] from (HK7.mono (by simp)).trans hk4)
      have HBZ := Lib.hid (show Below 0 wy w4 from hk4.below (fun _ _ => Nat.zero_le _) (Nat.zero_le _))
      clear hf4 hk4 HA7 HK7 hby
      go_simp
      have V := HV.out
      exact hK _ _ ⟨fun s => if s = 33 then Value.map (some A.fm) else if s = 34 then Value.int IntKind.i64 ↑bk else z s, _, rfl, Lib.hid ⟨V.1, V.2.1, V.2.2.1, fun _ => rfl, fun _ => rfl, V.2.2.2.2.2⟩, Lib.hid (HW.out.trans HBZ.out), Lib.hid ⟨fun e => (by cases e), fun _ => ⟨dd6, H4.out, HK4.out⟩, fun _ e => (by cases e)⟩⟩
  case doneM =>
    rintro b a w9 hb ⟨z, z36, rfl, HV, HW, HX⟩
    have e0 := (HV.out.1) (hb 0)
    have e1 := (HV.out.2.1) (hb 1)
    have e2 := (HV.out.2.2.1) (hb 2)
    have e3 := (HV.out.2.2.2.1) (hb 3)
    have e4 := (HV.out.2.2.2.2.1) (hb 4)
    have e5 := (HV.out.2.2.2.2.2) (hb 5)
    simp only [e0, e1, e2, e3, e4, e5]
    clear HV e0 e1 e2 e3 e4 e5
    obtain ⟨h6, HA9, HK9⟩ := HX.out.2.1 (hb 7)
    have H9 := Lib.hid HA9
    have HL9 := Lib.hid HK9
    clear HX HW hb h6 HA9 HK9
    go_wp2_with fail
    go_ret2
    exact ⟨bk, rfl, HB.out, H9.out, (HK1.out.mono (M := [A.cb, A.mb, A.p, A.fm]) (by simp)).join HL9.out (by simp)⟩
/-- Where its two rows of pages lie. -/
def LowR (w : World) (A : Adr) (B : Nat) : Prop := ∃ s1 n1 d1 s2 n2 d2, w.cell? ⟨A.b, 3, none⟩ = some (.slice (some ⟨s1, 0, none⟩) n1 d1) ∧ w.cell? ⟨A.b, 4, none⟩ = some (.slice (some ⟨s2, 0, none⟩) n2 d2) ∧ s1 < B ∧ s2 < B
theorem BAt.lowR (h : BAt Pr w A x) : LowR w A w.heap.size := by
  obtain ⟨s1, d1, s2, d2, h1, ⟨_, h2⟩, ⟨_, h3⟩⟩ := h.row
  exact ⟨s1, _, d1, s2, _, d2, h1.cellAt (bc3 ..), h1.cellAt (bc4 ..), h2.lt, h3.lt⟩
theorem LowR.keep {B : Nat} (h : LowR w A B) (k : w'.heap[A.b]? = w.heap[A.b]?) : LowR w' A B := by
  obtain ⟨s1, n1, d1, s2, n2, d2, h1, h2, h3⟩ := h
  refine ⟨s1, n1, d1, s2, n2, d2, ?_, ?_, h3⟩
  · unfold World.cell? at h1 ⊢; rw [k]; exact h1
  · unfold World.cell? at h2 ⊢; rw [k]; exact h2
theorem LowR.mono {B B' : Nat} (h : LowR w A B) (k : B ≤ B') : LowR w A B' := by
  obtain ⟨s1, n1, d1, s2, n2, d2, h1, h2, h3, h4⟩ := h
  exact ⟨s1, n1, d1, s2, n2, d2, h1, h2, Nat.lt_of_lt_of_le h3 k, Nat.lt_of_lt_of_le h4 k⟩
theorem LowR.below {B : Nat} (h : LowR w A B) (k : Below w.heap.size w w') (hA : A.b < w.heap.size) : LowR w' A B := h.keep (k.block _ hA)
theorem BAt.b_off (h : BAt Pr w A x) : A.b ∉ [A.cb, A.mb, A.p, A.fm] := by
  obtain ⟨s1, e1, s2, e2, h1, _⟩ := h.row
  obtain ⟨es, cl, hm⟩ := h.fm.map
  obtain ⟨spc, hcb⟩ := h.pat.tally.nums
  obtain ⟨nn, D, ⟨es2, cl2, ho, _⟩, _⟩ := h.pat.tally.mp
  simp only [List.mem_cons, List.not_mem_nil, or_false, not_or]
  exact ⟨row_ne h1 hcb (by decide), map_ne h1 ho, row_ne h1 h.pat.row (by decide), map_ne h1 hm⟩
theorem LowR.put {B : Nat} (h : LowR w A B) (hx : BAt Pr w A x) (k : ButL w w' [A.cb, A.mb, A.p, A.fm]) : LowR w' A B := h.keep (k.block _ hx.size hx.b_off)
/-- Nothing but rows of numbers above B has turned. -/
structure IntUp (B : Nat) (w w' : World) : Prop where
  os : w'.os = w.os
  tape : w'.tape = w.tape
  output : w'.output = w.output
  size : w.heap.size ≤ w'.heap.size
  block : ∀ j, j < w.heap.size → (j < B ∨ ∀ cs t fr, w.heap[j]? = some (.cells cs t fr) → t ≠ 3) → w'.heap[j]? = w.heap[j]?
theorem IntUp.below {B : Nat} (h : IntUp B w w') (hB : B ≤ w.heap.size) : Below B w w' := ⟨h.os, h.tape, h.output, h.size, fun k hk => h.block k (by omega) (.inl hk)⟩
theorem IntUp.of_below {B : Nat} (h : Below w.heap.size w w') : IntUp B w w' := ⟨h.os, h.tape, h.output, h.size, fun k hk _ => h.block k hk⟩
theorem IntUp.lowR {B : Nat} (k : IntUp B w w') (h : LowR w A B) (hA : A.b < B) (hw : A.b < w.heap.size) : LowR w' A B := h.keep (k.block _ hw (.inl hA))
theorem BAt.up' {B : Nat} (h : BAt Pr w A x) (k : IntUp B w w') (hl : LowR w A B) (hA : ∀ j ∈ A.list, j < B) : BAt Pr w' A x := by
  obtain ⟨s1, e1, s2, e2, h1, ⟨p1, h2⟩, ⟨p2, h3⟩⟩ := h.row
  obtain ⟨t1, n1, d1, t2, n2, d2, c1, c2, l1, l2⟩ := hl
  have q1 := h1.cellAt (bc3 ..)
  have q2 := h1.cellAt (bc4 ..)
  rw [c1] at q1
  rw [c2] at q2
  have m1 : s1 < B := by cases q1; exact l1
  have m2 : s2 < B := by cases q2; exact l2
  have lw : ∀ j ∈ A.list, w'.heap[j]? = w.heap[j]? := fun j hj => k.block j (h.list_lt j hj) (.inl (hA j hj))
  have ty : ∀ {j : Nat} {cs : Array Value} {t : TypeId} {fr : Nat × Nat}, w.heap[j]? = some (.cells cs t fr) → t ≠ 3 → w'.heap[j]? = w.heap[j]? := fun {j cs t fr} e ht => k.block j (lt_of_heap e) (.inr fun cs' t' fr' e' => by rw [e] at e'; cases e'; exact ht)
  exact ⟨⟨s1, e1, s2, e2, h1.block (lw _ (by simp [Adr.list])), ⟨p1, h2.block (k.block _ h2.lt (.inl m1))⟩, ⟨p2, h3.block (k.block _ h3.lt (.inl m2))⟩⟩,
    h.pat.blocks (lw _ (by simp [Adr.list])) (ty h.pat.tally.row (by decide)) (lw _ (by simp [Adr.list])) (lw _ (by simp [Adr.list])),
    h.fm.keep (lw _ (by simp [Adr.list])) fun g bs hb => hb.block fun cs fr e => ty e (by decide),
    h.dk.keep fun j cs t fr e ht => ty e (fun q => by rw [q] at ht; exact absurd ht (by decide)), h.ne, h.np, fun j hj => Nat.lt_of_lt_of_le (h.lt j hj) k.size⟩
theorem push_up {base : Nat} {v : Value} {l : List Int} (h : OwnI w base v l) {q : Nat} {z : Int} (R : w.cell? ⟨q, 0, none⟩ = some (.int .i64 z)) (ty : TypeId) (hl : l.length ≤ 4096) (hb : base ≤ w.heap.size) :
    ∃ v' w', (Builtin.append_ #[51, 51] ty #[v, .slice (some ⟨q, 0, none⟩) 1 1]).run Tryz.prog w = .ok v' w' ∧ OwnI w' base v' (l ++ [z]) ∧ IntUp base w w' := by
  obtain ⟨i0, hi, hz0, hz1, hz2⟩ := info_parts int_info
  obtain ⟨v', w', hr, ho, hg, _⟩ := run_append_own (P := Tryz.prog) w base 51 ty 3 i0 (.int .i64 0) 1 8 Tryz.underlying51 hi hz0 hz1 hz2 rfl (by omega) v l.length (l.map (Value.int .i64)) h ⟨q, 0, none⟩ 1 1 [.int .i64 z] rfl
    (fun j u hj => by
      rcases j with _ | j
      · simp at hj
        subst hj
        rw [add_plain]
        exact R
      · simp at hj)
    (fun u hu => by simp at hu; subst hu; rfl) (by unfold maxLen; omega) (by omega) hb
  refine ⟨v', w', hr, ?_, ⟨hg.os, hg.tape, hg.output, hg.size, fun k hk hc => hg.block k hk (fun e => ?_)⟩⟩
  · unfold OwnI
    rw [List.length_append, List.map_append]
    exact ho
  · rcases hc with hc | hc
    · have := (World.ownsRow.lt h k e.symm).1
      omega
    · rcases h.2 with ⟨rfl, _⟩ | ⟨g, cap, cur, rfl, _, hgg, _⟩
      · cases e
      · cases e
        exact hc _ _ _ hgg rfl
end
end Go.Proofs.YtogchamogbendaaGreat.Bs
/- BaseRoom's walk. -/
namespace Go.Proofs.YtogchamogbendaaGreat.Bs
set_option maxRecDepth 100000
open Go.RowKit Go.Proofs.YtogchamogbendaaGreat.Oct Go.Proofs.YtogchamogbendaaGreat.Mv Go.Proofs.YtogchamogbendaaGreat.Tl Go.Proofs.YtogchamogbendaaGreat.Pk Go.Proofs.YtogchamogbendaaGreat.Pl Go.Maps Go.ChangeMaps
open Go.Proofs.YtogchamogbendaaGreat.Dsk (dT)
open Go.Proofs.YtogchamogbendaaGreat.Su (Sup nth)
set_option linter.unusedVariables false
set_option linter.unusedSimpArgs false
set_option pp.deepTerms true

theorem fill_len {n : Nat} (h1 : 16 ≤ n) (h2 : n ≤ 215) : need n + need n + 2 < n ∧ need n ≤ 10 := by
  unfold need pg
  omega
theorem came_below {w w' : World} {a : Option Addr} {len cap : Nat} {bs : List UInt8} (h : Oct.Came w a len cap bs) (k : Below w.heap.size w w') : Oct.Came w' a len cap bs := by
  refine ⟨h.hlen, ?_, h.le, h.hcap, fun hne => ?_⟩
  · by_cases hne : bs = []
    · exact .inl hne
    · obtain ⟨b, o, e, h1, h2⟩ := h.old hne
      exact .inr ⟨b, o, e, h1.below h2 k⟩
  · obtain ⟨b, o, e, h1, h2⟩ := h.old hne
    exact ⟨b, o, e, h1.below h2 k, Nat.lt_of_lt_of_le h2 k.size⟩
set_option maxHeartbeats 4000000 in
theorem room_walk (a0 : Int) (A1 : Option Addr) (n1 c1 : Nat) (z1 : List Int) (w : World) (h0 : (Lit.int .u8 a0).wf = true) (h1 : IsRow .u8 w A1 n1 c1 z1) :
    Calls Tryz.prog 4 #[.int .u8 a0, .slice A1 n1 c1] w fun e w' => e = .returned (.bool true) ∧ Below w.heap.size w w' := by
  obtain ⟨b0, rfl⟩ := u8_of h0
  obtain ⟨bs, hbs⟩ := Oct.came h1
  have HC := Lib.hid hbs
  obtain ⟨n, hn⟩ : ∃ n, n = size8 b0 := ⟨_, rfl⟩
  have hsz := size8_ok b0
  rw [← hn] at hsz
  obtain ⟨hl1, hl2⟩ := fill_len hsz.1 hsz.2
  have HN := Lib.hid (And.intro hn (And.intro hsz (And.intro hl1 hl2)))
  clear h0 h1 hbs hsz hl1 hl2 hn
  go_enter Tryz.func4, Tryz.ntmps4
  go_wp2_with fail
  refine (formatted_any b0 w).mono ?_
  rintro e w1 ⟨A, y, rfl, hbg, hA, hat, B1⟩
  rw [← HN.out.1] at hbg hat
  have HA := Lib.hid hA
  have HF1 := Lib.hid (fill_made HN.out.2.1.1 (by have := HN.out.2.1.2; omega) hbg)
  have H1 := Lib.hid hat
  have HB1 := Lib.hid B1
  have HB1s := Lib.hid B1.size
  have HAL := Lib.hid (show ∀ k ∈ A.list, k < w1.heap.size from H1.out.list_lt)
  clear hbg hA hat B1
  obtain ⟨B, hB⟩ : ∃ B, B = w1.heap.size := ⟨_, rfl⟩
  have HBW := Lib.hid hB
  rw [← hB] at HAL
  clear hB
  go_upto_region 5 with (fail)
  go_loopw [8] (fun v wr => ∃ (l : List Nat) (x : BS), Hid (OwnI wr B v (toI l)) ∧ Hid (BAt (fun k => k < w.heap.size) wr A x) ∧ Hid (Fill n x l) ∧ Hid (Below w.heap.size w wr) ∧ Hid (B ≤ wr.heap.size ∧ LowR wr A B)) (fun v _ => 500 - slen v)
  case atStart => exact ⟨[], _, Lib.hid (own_nil _ _), H1, HF1, HB1, Lib.hid ⟨by rw [HBW.out]; exact Nat.le_refl _, by rw [HBW.out]; exact H1.out.lowR⟩⟩
  case round =>
    obtain ⟨l, x, HL, HX, HF, HBr, HBB⟩ := hrel
    have hn1 : nth x.now 1 = n := HF.out.g.n1.trans HF.out.xn
    have hxn := HF.out.xn
    have hgr : need n ≤ x.q.room := by have := HF.out.g.room; rw [hxn] at this; exact this
    have hrm := HF.out.room
    have HR := Lib.hid (And.intro hn1 (And.intro hxn (And.intro hgr hrm)))
    obtain ⟨AL, cl, rfl, hT⟩ := HL.out.list
    clear hT hn1 hxn hgr hrm HF1 H1 HB1
    by_cases hlt : need n < x.q.room
    · have hgt : (0 : Int) < ((x.q.room - need n : Nat) : Int) := by omega
      go_wp2_with fail
      refine (room_at HX.out (by rw [HR.out.1]; have := HN.out.2.1.2; omega) (by rw [HR.out.1, HR.out.2.1]) (by rw [HR.out.2.1]; exact HR.out.2.2.1)).mono ?_
      rintro e w' ⟨rfl, rfl⟩
      rw [HR.out.2.1]
      have hw16 : IntKind.u16.wrap (l.length : Int) = (l.length : Int) := by rw [IntKind.wrap_u16]; have := HR.out.2.2.2; have := HN.out.2.1.2; omega
      go_wp2_with fail
      refine (block_any l.length (by have := HR.out.2.2.2; have := HN.out.2.1.2; omega) _).mono ?_
      rintro e w2 ⟨g, rfl, _, hrow, kz⟩
      have HX2 := Lib.hid (HX.out.below kz)
      have HL2 := Lib.hid (HL.out.below kz)
      have HB2 := Lib.hid (HBr.out.trans (kz.mono HBr.out.size))
      have HBB2 := Lib.hid (And.intro (Nat.le_trans HBB.out.1 kz.size) (HBB.out.2.below kz HX.out.size))
      have HRW := Lib.hid hrow
      clear kz hrow HX HL HBr HBB
      go_wp2_with fail
      refine (put_sharp HX2.out (by rw [HR.out.1]; have := HN.out.2.1.2; omega) (by rw [HR.out.1, HR.out.2.1]) (by rw [HR.out.2.1]; exact hlt) (length_blk l.length) (HX2.out.bytes3 HRW.out (length_blk _))).mono ?_
      rintro e w3 ⟨b, rfl, hfd, hat, hb⟩
      have HF3 := Lib.hid (HF.out.put hfd hlt (length_blk l.length))
      have HB3 := Lib.hid (lowb HA.out HB2.out (hb.mono (M := A.list) (by simp [Adr.list])) (Nat.le_refl _))
      have HL3 := Lib.hid (OwnI.butL HL2.out (hb.mono (M := A.list) (by simp [Adr.list])) HAL.out)
      have HX3 := Lib.hid hat
      have HBB3 := Lib.hid (And.intro (Nat.le_trans HBB2.out.1 hb.size) (HBB2.out.2.put HX2.out hb))
      clear hfd hat hb HX2 HL2 HB2 HRW HBB2
      have B4 := (Below.refl w3.heap.size w3).alloc (Nat.le_refl _) (.cells #[.int .i64 (b : Int)] 3)
      have R4 := (alloc_rowV w3 3 [.int .i64 (b : Int)]).cellAt (i := 0) rfl
      have HX4 := Lib.hid (HX3.out.below B4)
      have HB4 := Lib.hid (HB3.out.trans (B4.mono HB3.out.size))
      have hbb4 := Nat.le_trans HBB3.out.1 B4.size
      have HLW4 := Lib.hid (HBB3.out.2.below B4 HX3.out.size)
      obtain ⟨v5, w5, hrun, hown, hbel⟩ := push_up (HL3.out.below B4) R4 51 (by rw [length_toI]; have := HR.out.2.2.2; have := HN.out.2.1.2; omega) hbb4
      have e5 : toI l ++ [(b : Int)] = toI (l ++ [b]) := by simp [toI]
      rw [e5] at hown
      have HL5 := Lib.hid hown
      have HB5 := Lib.hid (HB4.out.trans ((hbel.below hbb4).mono (by have := HBW.out; have := HB1s.out; omega)))
      have HX5 := Lib.hid (HX4.out.up' hbel HLW4.out HAL.out)
      have HBB5 := Lib.hid (And.intro (Nat.le_trans hbb4 hbel.size) (hbel.lowR HLW4.out (HAL.out _ (by simp [Adr.list])) HX4.out.size))
      clear B4 R4 hbb4 hown hbel e5 HX3 HL3 HB3 HX4 HB4
      go_wp2_with (at_builtin; refine wpList_append_run rfl (.tmp 41) (.tmp 43) 51 rfl _ _ rfl rfl _ w5 hrun ?_)
      clear hrun
      go_roundw
      case rel => exact ⟨l ++ [b], _, HL5, HX5, HF3, HB5, HBB5⟩
      case measure => rw [OwnI.slen HL5.out, length_toI, List.length_append]; have := HR.out.2.2.2; have := HN.out.2.1.2; simp [slen]; omega
    · have hre : x.q.room = need n := by have := HR.out.2.2.1; omega
      have HRE := Lib.hid hre
      clear hre
      go_wp2_with fail
      refine (room_at HX.out (by rw [HR.out.1]; have := HN.out.2.1.2; omega) (by rw [HR.out.1, HR.out.2.1]) (by rw [HR.out.2.1]; exact HR.out.2.2.1)).mono ?_
      rintro e w' ⟨rfl, rfl⟩
      rw [HR.out.2.1, HRE.out, Nat.sub_self]
      go_wp2_with fail
      refine (block_any 1 (by omega) _).mono ?_
      rintro e w2 ⟨g, rfl, _, _, kz⟩
      have HX2 := Lib.hid (HX.out.below kz)
      have HL2 := Lib.hid (HL.out.below kz)
      have HB2 := Lib.hid (HBr.out.trans (kz.mono HBr.out.size))
      clear kz HX HL HBr HBB
      go_wp2_with fail
      refine (put_full HX2.out (by rw [HR.out.1]; have := HN.out.2.1.2; omega) (by rw [HR.out.1, HR.out.2.1]) (by rw [HR.out.2.1]; exact HRE.out) _ _).mono ?_
      rintro e w' ⟨rfl, rfl⟩
      go_wp2_with fail
      refine (commit_any HX2.out HF.out.g (by rw [HF.out.now0]; omega)).mono ?_
      rintro e w3 ⟨rfl, x', hcm, hg', hat, ho⟩
      have HK := Lib.hid (HF.out.kept HRE.out hcm)
      have HX3 := Lib.hid hat
      have HL3 := Lib.hid (OwnI.off HL2.out ho HAL.out)
      have HB3 := Lib.hid (lowo HA.out HB2.out ho (Nat.le_refl _))
      have HLL := Lib.hid (show l.length = n - 2 - need n - need n from by have := HR.out.2.2.2; have := HRE.out; omega)
      clear hcm hg' hat ho HX2 HL2 HB2 HF HR HRE
      have HN1 := Lib.hid (show nth x'.now 1 = n from HK.out.g.n1.trans HK.out.xn)
      go_wp2_with fail
      refine (blocks_at HX3.out (by rw [HN1.out]; have := HN.out.2.1.2; omega)).mono ?_
      rintro e w' ⟨rfl, rfl⟩
      rw [HN1.out]
      go_wp2_with fail
      refine (blocks_at HX3.out (by rw [HN1.out]; have := HN.out.2.1.2; omega)).mono ?_
      rintro e w' ⟨rfl, rfl⟩
      rw [HN1.out]
      go_wp2_with fail
      refine (need_eq n (by have := HN.out.2.1.2; omega) _).mono ?_
      rintro e w' ⟨rfl, rfl⟩
      have hw1 : wrap64 ((n : Int) - 2) = (n : Int) - 2 := by have := HN.out.2.1; unfold wrap64; omega
      have hw3 : wrap64 (2 * (need n : Int)) = 2 * (need n : Int) := by have := HN.out.2.2.2; unfold wrap64; omega
      have hw2 : wrap64 ((n : Int) - 2 - 2 * (need n : Int)) = (l.length : Int) := by
        have h1 := HLL.out
        have h2 := HN.out
        rw [show (n : Int) - 2 - 2 * (need n : Int) = (l.length : Int) by omega]
        unfold wrap64
        omega
      have hmx : max (l.length : Int) 0 = (l.length : Int) := by omega
      go_upto_region 14 with (fail)
      clear hw1 hw2 hw3 hmx
      obtain ⟨m, hm⟩ : ∃ m : Nat, m = min n1 100 := ⟨_, rfl⟩
      have hmin : min (n1 : Int) 100 = (m : Int) := by omega
      have hml : m ≤ n1 := by omega
      have hm100 : m ≤ 100 := by omega
      have hle := HC.out.le
      have hcap := HC.out.hcap
      have HM := Lib.hid (And.intro hml hm100)
      clear hm
      go_upto_region 15 with (fail)
      clear hmin hml hm100 hle hcap
      have hlp : 0 < l.length := by have := HLL.out; have := HN.out.2.2.1; omega
      obtain ⟨gL, cL, eL, _, _⟩ := OwnI.slice HL3.out (by rw [length_toI]; exact hlp)
      have eA : AL = some ⟨gL, 0, none⟩ := by injection eL
      subst eA
      clear eL hlp
      go_loopw [78, 13] (fun i mv wx => ∃ (k many : Nat) (z : BS), k ≤ m ∧ i = .int .i64 (k : Int) ∧ mv = .int .i64 (many : Int) ∧ many ≤ k ∧ Hid (BAt (fun k => k < w.heap.size) wx A z) ∧ Hid (Kept n 2 z l many) ∧ Hid (OwnI wx B (.slice (some ⟨gL, 0, none⟩) l.length cl) (toI l)) ∧ Hid (Below w.heap.size w wx)) (fun i _ _ => m - (Go.RowKit.intOf i).toNat)
      case atStart => exact ⟨0, 0, _, Nat.zero_le _, rfl, rfl, Nat.le_refl _, HX3, HK, HL3, HB3⟩
      case round =>
        obtain ⟨k, many, z, hk, rfl, rfl, hmk, HX, HK, HL, HBx⟩ := hrel
        clear HX3 HL3 HB3
        by_cases hlt : k < m
        · have hki : (k : Int) < (m : Int) := by omega
          have hk0 : (0 : Int) ≤ (k : Int) := by omega
          have hbl := HC.out.hlen
          have hm1 := HM.out.1
          have hne : bs ≠ [] := fun e => by rw [e] at hbl; simp at hbl; omega
          obtain ⟨b1, o1, rfl, hH, _⟩ := (came_below HC.out HBx.out).old hne
          have hc := hH k (by omega)
          obtain ⟨c, hcc⟩ : ∃ c, bs[k]'(by omega) = c := ⟨_, rfl⟩
          rw [hcc] at hc
          obtain ⟨j, hj⟩ : ∃ j, j = c.toNat % l.length := ⟨_, rfl⟩
          have hlp : 0 < l.length := by have := HLL.out; have := HN.out.2.2.1; omega
          have hjl : j < l.length := by rw [hj]; exact Nat.mod_lt _ hlp
          have hl0 : ¬ ((l.length : Int) = 0) := by omega
          have htm : (c.toNat : Int).tmod (l.length : Int) = (j : Int) := by rw [hj, Int.tmod_eq_emod_of_nonneg (by omega)]; omega
          have hwc : wrap64 (c.toNat : Int) = (c.toNat : Int) := by have := c.toNat_lt; unfold wrap64; omega
          have hji : (j : Int) < (l.length : Int) := by omega
          have hj0 : (0 : Int) ≤ (j : Int) := by omega
          obtain ⟨g', c', e', _, hcl⟩ := OwnI.slice HL.out (by rw [length_toI]; exact hlp)
          have eg : gL = g' := by simpa using (by injection e' with e1 _ _; exact Option.some.inj e1 : (⟨gL, 0, none⟩ : Addr) = ⟨g', 0, none⟩)
          subst eg
          have hcj := hcl j (by rw [length_toI]; exact hjl)
          rw [show (toI l)[j]'(by rw [length_toI]; exact hjl) = ((l.getD j 0 : Nat) : Int) by rw [← toI_get, List.getD_eq_getElem?_getD, List.getElem?_eq_getElem (by rw [length_toI]; exact hjl)]; rfl] at hcj
          have hbm : l.getD j 0 ∈ l := getD_mem hjl
          generalize l.getD j 0 = b at *
          obtain ⟨d1, d2, d3, d4, d5⟩ := HK.out.data b hbm
          have HD := Lib.hid (And.intro hbm (And.intro d2 hjl))
          clear hj hcl e' hcc hH hne hbm d1 d2 d4 d5 hbl hm1 hlp hjl
          have hmm : (many : Int) ≤ 100 := by have := HM.out.2; omega
          have hkk : (k : Int) ≤ 100 := by have := HM.out.2; omega
          have hm0 : (0 : Int) ≤ (many : Int) := by omega
          rcases d3 with q1 | q1
          · have HQ := Lib.hid q1
            clear q1
            go_wp2_with fail
            refine (count_at HX.out b (by rw [HK.out.xn]; exact HD.out.2.1)).mono ?_
            rintro e w' ⟨rfl, rfl⟩
            rw [HQ.out, show ((1 : UInt16).toNat : Int) = 1 from rfl]
            go_wp2_with fail
            refine (down_ok HX.out (HK.out.may HD.out.1 (by rw [HQ.out]; decide))).mono ?_
            rintro e w2 ⟨rfl, hat, hb⟩
            have HK2 := Lib.hid (HK.out.down HD.out.1 (by rw [HQ.out]; decide))
            have HX2 := Lib.hid hat
            have HL2 := Lib.hid (OwnI.butL HL.out hb HAL.out)
            have HB2 := Lib.hid (lowb HA.out HBx.out hb (Nat.le_refl _))
            clear hat hb HX HL HBx
            go_wp2_with fail
            go_roundw
            case rel => exact ⟨k + 1, many + 1, _, by omega, by go_num, by go_num, by omega, HX2, HK2, HL2, HB2⟩
            case measure => simp [Go.RowKit.intOf]; omega
          · have HQ := Lib.hid q1
            clear q1
            go_wp2_with fail
            refine (count_at HX.out b (by rw [HK.out.xn]; exact HD.out.2.1)).mono ?_
            rintro e w' ⟨rfl, rfl⟩
            rw [HQ.out, show ((0 : UInt16).toNat : Int) = 0 from rfl]
            go_wp2_with fail
            go_roundw
            case rel => exact ⟨k + 1, many, _, by omega, by go_num, rfl, by omega, HX, HK, HL, HBx⟩
            case measure => simp [Go.RowKit.intOf]; omega
        · have hki : ¬ ((k : Int) < (m : Int)) := by omega
          have HMM := Lib.hid (show many ≤ 100 from by have := HM.out.2; omega)
          go_wp2_with fail
          refine (waits_at HX.out).mono ?_
          rintro e w2 ⟨rfl, kz⟩
          rw [HK.out.idle]
          have HX2 := Lib.hid (HX.out.below kz)
          have HB2 := Lib.hid (HBx.out.trans (kz.mono HBx.out.size))
          have HN2 := Lib.hid (And.intro (show nth z.now 1 = n from HK.out.g.n1.trans HK.out.xn) (And.intro HK.out.xn HK.out.room))
          clear kz HX HBx HL
          go_wp2_with fail
          refine (room_at HX2.out (by rw [HN2.out.1]; have := HN.out.2.1.2; omega) (by rw [HN2.out.1, HN2.out.2.1]) (by rw [HN2.out.2.1, HN2.out.2.2]; exact Nat.le_refl _)).mono ?_
          rintro e w' ⟨rfl, rfl⟩
          rw [HN2.out.2.1, HN2.out.2.2, Nat.sub_self]
          go_wp2_with fail
          refine (commit_any HX2.out HK.out.g (by have := HK.out.now0; omega)).mono ?_
          rintro e w3 ⟨rfl, z', hcm, _, hat, ho⟩
          have HY := Lib.hid (HK.out.roomy hcm)
          have HX3 := Lib.hid hat
          have HB3 := Lib.hid (lowo HA.out HB2.out ho (Nat.le_refl _))
          clear hcm hat ho HX2 HB2 HK HN2
          have HN3 := Lib.hid (And.intro (show nth z'.now 1 = n from HY.out.g.n1.trans HY.out.xn) (And.intro HY.out.xn HY.out.room))
          go_wp2_with fail
          refine (room_at HX3.out (by rw [HN3.out.1]; have := HN.out.2.1.2; omega) (by rw [HN3.out.1, HN3.out.2.1]) (by rw [HN3.out.2.1, HN3.out.2.2]; omega)).mono ?_
          rintro e w' ⟨rfl, rfl⟩
          rw [HN3.out.2.1, HN3.out.2.2, Nat.add_sub_cancel_left]
          clear HN3
          go_upto_region 26 with (fail)
          go_loopw [122] (fun i wx => ∃ (k : Nat) (z : BS), k ≤ many ∧ i = .int .i64 (k : Int) ∧ Hid (BAt (fun k => k < w.heap.size) wx A z) ∧ Hid (Roomy n 3 z (many - k)) ∧ Hid (Below w.heap.size w wx)) (fun i _ => many - (Go.RowKit.intOf i).toNat)
          case atStart => exact ⟨0, _, Nat.zero_le _, rfl, HX3, HY, HB3⟩
          case round =>
            obtain ⟨k, z, hk, rfl, HX, HY, HBx⟩ := hrel
            clear HX3 HB3
            have HN4 := Lib.hid (And.intro (show nth z.now 1 = n from HY.out.g.n1.trans HY.out.xn) (And.intro HY.out.xn HY.out.room))
            by_cases hlt : k < many
            · have hki : (k : Int) < (many : Int) := by omega
              have hk0 : (0 : Int) ≤ (k : Int) := by omega
              have hmm : (many : Int) ≤ 100 := by have := HMM.out; omega
              go_wp2_with fail
              refine (block_any 7 (by omega) _).mono ?_
              rintro e w2 ⟨g, rfl, _, hrow, kz⟩
              have HX2 := Lib.hid (HX.out.below kz)
              have HB2 := Lib.hid (HBx.out.trans (kz.mono HBx.out.size))
              have HRW := Lib.hid hrow
              clear kz hrow HX HBx
              go_wp2_with fail
              refine (put_at HX2.out (by rw [HN4.out.1]; have := HN.out.2.1.2; omega) (by rw [HN4.out.1, HN4.out.2.1]) (by rw [HN4.out.2.1, HN4.out.2.2]; omega) (length_blk 7) (HX2.out.bytes3 HRW.out (length_blk 7))).mono ?_
              rintro e w3 ⟨b, rfl, hfd, hat, hb⟩
              have HY3 := Lib.hid (Roomy.put (m := many - (k + 1)) (by rw [show many - (k + 1) + 1 = many - k by omega]; exact HY.out) hfd (length_blk 7))
              have HX3 := Lib.hid hat
              have HB3 := Lib.hid (lowb HA.out HB2.out hb (Nat.le_refl _))
              clear hfd hat hb HX2 HB2 HRW
              go_wp2_with fail
              go_roundw
              case rel => exact ⟨k + 1, _, by omega, by go_num, HX3, HY3, HB3⟩
              case measure => simp [Go.RowKit.intOf]; omega
            · have hki : ¬ ((k : Int) < (many : Int)) := by omega
              obtain rfl : k = many := by omega
              go_wp2_with fail
              refine (room_at HX.out (by rw [HN4.out.1]; have := HN.out.2.1.2; omega) (by rw [HN4.out.1, HN4.out.2.1]) (by rw [HN4.out.2.1, HN4.out.2.2]; omega)).mono ?_
              rintro e w' ⟨rfl, rfl⟩
              rw [HN4.out.2.1, HN4.out.2.2, Nat.sub_self, Nat.add_zero, Nat.sub_self]
              go_wp2_with fail
              refine (commit_any HX.out HY.out.g (by have := HY.out.now0; omega)).mono ?_
              rintro e w3 ⟨rfl, z', _, _, _, ho⟩
              have HB3 := Lib.hid (lowo HA.out HBx.out ho (Nat.le_refl _))
              clear ho HX HBx HY HN4
              go_wp2_with fail
              refine (awake_any _).mono ?_
              rintro e w4 ⟨rfl, kz⟩
              have HB4 := Lib.hid (HB3.out.trans (kz.mono HB3.out.size))
              clear kz HB3
              go_wp2_with fail
              go_ret
              exact ⟨rfl, HB4.out⟩
end Go.Proofs.YtogchamogbendaaGreat.Bs
