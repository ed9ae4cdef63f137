/- The walk of the statement DiskTells. (Written by bin/gen_dtells.py.) -/
import Derived.Test.YthcjhbjhghfhjaaRefN
import Derived.Test.YthcjhbjhghfhjaaInv2
namespace Go.Proofs.Ythcjhbjhghfhjaa.Dsk
open Go.RowKit Go.Proofs.Ythcjhbjhghfhjaa.Oct
set_option linter.unusedVariables false

theorem ptr_nil (x : Addr) (w : World) : (binOp .eql 24 (.pointer (some x)) (.pointer none)).run Try.prog w = .ok (.bool false) w := by
  have h : ∀ d : Nat, (Op.equalIn (d + 1) 24 (.pointer (some x)) (.pointer none)).run Try.prog w = .ok false w := fun d => by
    simp [Op.equalIn, run_underlying Try.underlying24]
  simp only [binOp]
  simp [Op.equal, Op.maxDepth, h 9999]
theorem nil_nil (w : World) : (binOp .eql 24 (.pointer none) (.pointer none)).run Try.prog w = .ok (.bool true) w := by
  have h : ∀ d : Nat, (Op.equalIn (d + 1) 24 (.pointer none) (.pointer none)).run Try.prog w = .ok true w := fun d => by
    simp [Op.equalIn, run_underlying Try.underlying24]
  simp only [binOp]
  simp [Op.equal, Op.maxDepth, h 9999]
set_option maxRecDepth 100000 in
set_option maxHeartbeats 8000000 in
theorem dtells_walk (n : Int) (A : Option Addr) (len cap : Nat) (l : List Opr) (w : World) (hn : (Lit.int .i64 n).wf = true) (ho : OpsIn w A len cap l) :
    Calls Try.prog 3 #[.int .i64 n, .slice A len cap] w (BoolPost w true) := by
  have HO := Lib.hid ho
  have HB := Lib.hid (Below.refl w.heap.size w)
  have HA := Lib.hid (show ∀ w2 : World, Below w.heap.size w w2 → Calls Try.prog 9 #[] w2 fun e w' => e = .returned (.bool true) ∧ Below w.heap.size w w' from fun w2 k => (awake_any w2).mono fun e w' ⟨h1, h2⟩ => ⟨h1, k.trans (h2.mono k.size)⟩)
  have hle := ho.le
  have hcap := ho.cap
  unfold maxLen at hcap
  clear hn ho
  go_enter Try.func3, Try.ntmps3
  by_cases hmid : 40 < n ∧ n ≤ 4096
  case pos =>
    have h1 := hmid.1
    have h2 := hmid.2
    go_wp2_with fail
    refine (HA.out _ HB.out).mono ?_
    rintro e wl ⟨rfl, kl⟩
    go_wp2_with fail
    go_ret
    exact ⟨rfl, kl⟩
  have hcond : (¬ (40 : Int) < n) ∨ ((40 : Int) < n ∧ ¬ n ≤ 4096) := by omega
  by_cases hok : 16 ≤ n ∧ n ≤ 4096
  case neg =>
    have HNB := Lib.hid (new_bad n hok)
    have HRB := Lib.hid (rnew_bad n (by omega))
    clear hmid hok
    rcases hcond with h1 | ⟨h1, h2⟩
    all_goals
      go_wp2_with fail
      refine (HNB.out _).mono ?_
      rintro e w1 ⟨rfl, rfl⟩
      go_wp2_with fail
      refine (HRB.out _).mono ?_
      rintro e w2 ⟨rfl, kk⟩
      unfold rparts
      have HB2 := Lib.hid (HB.out.trans (kk.mono HB.out.size))
      have ka := (Below.refl w2.heap.size w2).alloc (Nat.le_refl _) (.cells #[.int .i64 0, .slice none 0 0, .slice none 0 0, .int .i64 0, .bool false] 30)
      have HB := Lib.hid (HB2.out.trans (ka.mono HB2.out.size))
      clear kk ka HNB HRB
      go_upto_region 5 with (fail)
      generalize w2.alloc (.cells #[.int .i64 0, .slice none 0 0, .slice none 0 0, .int .i64 0, .bool false] 30) = w3 at *
      have hnn := nil_nil w3
      go_wp2_with fail
      refine (HA.out _ HB.out).mono ?_
      rintro e wl ⟨rfl, kl⟩
      go_wp2_with fail
      go_ret
      exact ⟨rfl, kl⟩
  have h1 : ¬ (40 : Int) < n := by omega
  obtain ⟨m, rfl⟩ := Int.eq_ofNat_of_zero_le (show 0 ≤ n by omega)
  clear hmid hcond
  go_wp2_with fail
  refine (new_is m (by omega) (by omega) _).mono ?_
  rintro e w1 ⟨p, rfl, hI, kk⟩
  have HI := Lib.hid hI
  replace HB := Lib.hid (HB.out.trans (kk.mono HB.out.size))
  clear hI kk
  go_wp2_with fail
  refine (rnew_ok (m : Int) (by omega) (by omega) _).mono ?_
  rintro e w2 ⟨rfl, kk⟩
  unfold rparts
  replace HI := Lib.hid (HI.out.below kk)
  replace HB := Lib.hid (HB.out.trans (kk.mono HB.out.size))
  have HBO := Lib.hid (both_start HI.out HB.out.size)
  have ka := (Below.refl w2.heap.size w2).alloc (Nat.le_refl _) (.cells #[.int .i64 (m : Int), .slice none 0 0, .slice none 0 0, .int .i64 (-1), .bool false] 30)
  replace HB := Lib.hid (HB.out.trans (ka.mono HB.out.size))
  clear kk ka HI
  go_upto_region 5 with (fail)
  generalize w2.alloc (.cells #[.int .i64 (m : Int), .slice none 0 0, .slice none 0 0, .int .i64 (-1), .bool false] 30) = w3 at *
  generalize w2.heap.size = rb at *
  have hpn := ptr_nil ⟨p, 0, none⟩ w3
  go_wp2_with fail
  clear hpn
  go_loopw [9] (fun i wr => ∃ k : Nat, k ≤ 40 ∧ i = .int .i64 (k : Int) ∧ Hid (∃ s r, Both wr w.heap.size p rb s r k) ∧ Hid (Below w.heap.size w wr)) (fun i _ => 40 - (intOf i).toNat)
  case atStart => exact ⟨0, by omega, rfl, Lib.hid ⟨_, _, HBO.out⟩, HB⟩
  case round =>
    obtain ⟨k, hk, rfl, HBOq, HBq⟩ := hrel
    clear HBO HB
    have HB := HBq
    clear HBq
    obtain ⟨s, r, hbo⟩ := HBOq.out
    have HBO := Lib.hid hbo
    clear HBOq hbo
    by_cases hgo : k < len ∧ k < 40
    case pos =>
      have hkl := hgo.1
      have hk4 := hgo.2
      have hli : (k : Int) < (len : Int) := by omega
      have h4i : (k : Int) < 40 := by omega
      obtain ⟨bo, oo, rfl, hL, hF⟩ := HO.out.at hkl
      have HLI := Lib.hid hL
      have HFI := Lib.hid hF
      clear hL hF hgo
      have hkx : k < l.length := by rw [HO.out.hlen]; exact hkl
      generalize l[k] = x at HLI HFI
      obtain ⟨what, place, ba, bl, bc, bs, ka, kl, kc, ks, torn, cut⟩ := x
      have hL := HLI.out.below HB.out
      have c2 := hL.c2
      have HCM := Lib.hid HFI.out.came
      have HKP := Lib.hid HFI.out.keep
      have HTW := Lib.hid (show ∀ w', Below w.heap.size w w' → Oct.Told w' ba bs from fun w' q => told_any HCM.out.told q)
      simp only at c2 HCM HKP
      clear hL
      go_wp2_with fail
      refine (again_room ba bl bc bs HCM.out.hlen _ (Nat.le_trans HCM.out.le HCM.out.hcap) (HTW.out _ HB.out)).mono ?_
      rintro e wx ⟨g, cg, rfl, hR, hg, kk⟩
      have HRM := Lib.hid hR
      have HGB := Lib.hid (Nat.le_trans HB.out.size hg)
      replace HBO := Lib.hid (HBO.out.below kk)
      replace HB := Lib.hid (HB.out.trans (kk.mono HB.out.size))
      clear hR hg kk c2
      go_upto_region 13 with (fail)
      refine Inv2.wp_region_inv (fun b a wy => ∃ z58 z59 z60 z61 z62 z63 z64 z65 z66 z67 z68 z69 z70 z71 z72 z73 z74 z75 z76 z77 z78 z79 z80 z81 z82 z83 z84 z85 z86, a = ⟨(List.toArray (Value.int IntKind.i64 ↑m :: Value.slice (some { block := bo, off := oo }) len cap :: undef :: undef :: u4 :: Value.pointer (some { block := p, off := 0 }) :: Value.int IntKind.i64 0 :: Value.pointer (some { block := rb, off := 0 }) :: Value.int IntKind.i64 0 :: Value.int IntKind.i64 ↑k :: Value.slice (some { block := g, off := 0 }) bl cg :: u11 :: Value.int IntKind.i64 ↑m :: Value.bool false :: Value.bool false :: undef :: undef :: Value.bool false :: undef :: Value.tuple #[Value.pointer (some { block := p, off := 0 }), Value.int IntKind.i64 0] :: Value.int IntKind.i64 ↑m :: Value.tuple #[Value.pointer (some { block := p, off := 0 }), Value.int IntKind.i64 0] :: Value.pointer (some { block := p, off := 0 }) :: Value.int IntKind.i64 0 :: Value.tuple #[Value.agg #[Value.int IntKind.i64 ↑m, Value.slice none 0 0, Value.slice none 0 0, Value.int IntKind.i64 (-1), Value.bool false], Value.int IntKind.i64 0] :: Value.int IntKind.i64 ↑m :: Value.tuple #[Value.agg #[Value.int IntKind.i64 ↑m, Value.slice none 0 0, Value.slice none 0 0, Value.int IntKind.i64 (-1), Value.bool false], Value.int IntKind.i64 0] :: Value.agg #[Value.int IntKind.i64 ↑m, Value.slice none 0 0, Value.slice none 0 0, Value.int IntKind.i64 (-1), Value.bool false] :: Value.int IntKind.i64 0 :: Value.int IntKind.i64 0 :: Value.int IntKind.i64 0 :: Value.bool false :: Value.bool false :: Value.pointer (some { block := p, off := 0 }) :: Value.bool false :: Value.int IntKind.i64 0 :: Value.bool false :: Value.bool false :: Value.bool false :: Value.int IntKind.i64 0 :: Value.bool false :: undef :: Value.int IntKind.i64 ↑k :: Value.slice (some { block := bo, off := oo }) len cap :: Value.int IntKind.i64 ↑len :: Value.bool true :: Value.bool true :: Value.int IntKind.i64 ↑k :: Value.bool true :: Value.bool true :: u50 :: u51 :: Value.slice (some { block := bo, off := oo }) len cap :: Value.int IntKind.i64 ↑k :: Value.pointer (some { block := bo, off := oo + k * 6 }) :: Value.pointer (some { block := bo, off := oo + k * 6 + 2 }) :: Value.slice ba bl bc :: Value.slice (some { block := g, off := 0 }) bl cg :: z58 :: z59 :: z60 :: z61 :: z62 :: z63 :: z64 :: z65 :: z66 :: z67 :: z68 :: z69 :: z70 :: z71 :: z72 :: z73 :: z74 :: z75 :: z76 :: z77 :: z78 :: z79 :: z80 :: z81 :: z82 :: z83 :: z84 :: z85 :: z86 :: u87 :: u88 :: u89 :: u90 :: u91 :: u92 :: u93 :: u94 :: u95 :: u96 :: u97 :: u98 :: undef :: undef :: undef :: undef :: undef :: undef :: [])), []⟩ ∧ Hid ((b 0 = true → z58 = Value.pointer (some { block := p, off := 0 })) ∧ (b 1 = true → z59 = Value.slice (some { block := bo, off := oo }) len cap) ∧ (b 2 = true → z60 = Value.int IntKind.i64 ↑k) ∧ (b 3 = true → z61 = .pointer (some ⟨bo, oo + k * 6, none⟩)) ∧ (b 4 = true → z62 = .pointer (some ⟨bo, oo + k * 6, none⟩)) ∧ (b 5 = true → z63 = .int .u8 (what.toNat : Int)) ∧ (b 6 = true → z64 = Value.slice (some { block := bo, off := oo }) len cap) ∧ (b 7 = true → z65 = Value.int IntKind.i64 ↑k) ∧ (b 8 = true → z66 = .pointer (some ⟨bo, oo + k * 6, none⟩)) ∧ (b 9 = true → z67 = .pointer (some ⟨bo, oo + k * 6 + 1, none⟩)) ∧ (b 10 = true → z68 = .int .i64 place) ∧ (b 11 = true → z69 = Value.slice (some { block := g, off := 0 }) bl cg) ∧ (b 12 = true → z70 = Value.slice (some { block := bo, off := oo }) len cap) ∧ (b 13 = true → z71 = Value.int IntKind.i64 ↑k) ∧ (b 14 = true → z72 = .pointer (some ⟨bo, oo + k * 6, none⟩)) ∧ (b 15 = true → z73 = .pointer (some ⟨bo, oo + k * 6 + 3, none⟩)) ∧ (b 16 = true → z74 = .agg #[.slice ka kl kc, .int .i64 torn, .int .i64 cut]) ∧ (b 17 = true → z75 = .bool true) ∧ (b 18 = true → z76 = .bool false) ∧ (b 19 = true → z77 = .bool false) ∧ (b 20 = true → z78 = Value.slice (some { block := g, off := 0 }) bl cg) ∧ (b 21 = true → z79 = Value.slice (some { block := bo, off := oo }) len cap) ∧ (b 22 = true → z80 = Value.int IntKind.i64 ↑k) ∧ (b 23 = true → z81 = .pointer (some ⟨bo, oo + k * 6, none⟩)) ∧ (b 24 = true → z82 = .pointer (some ⟨bo, oo + k * 6 + 2, none⟩)) ∧ (b 25 = true → z83 = .slice ba bl bc) ∧ (b 26 = true → z84 = .bool true) ∧ (b 27 = true → z85 = .bool false) ∧ (b 28 = true → z86 = .bool false)) ∧ Hid (Below w.heap.size wx wy) ∧ Hid ((b 17 = false → Both wy w.heap.size p rb s r k) ∧ (b 17 = true → ∃ s2 r2, Both wy w.heap.size p rb s2 r2 (k + 1)) ∧ Turned dr w.heap.size wx wy)) (by kernel_rfl) (by kernel_rfl) ?startD13 ?stepsD13 ?doneD13
      case startD13 =>
        intro b hb
        refine ⟨u58, u59, u60, u61, u62, u63, u64, u65, u66, u67, u68, u69, u70, u71, u72, u73, u74, u75, u76, u77, u78, u79, u80, u81, u82, u83, u84, u85, u86, rfl, Lib.hid ⟨?_, ?_, ?_, ?_, ?_, ?_, ?_, ?_, ?_, ?_, ?_, ?_, ?_, ?_, ?_, ?_, ?_, ?_, ?_, ?_, ?_, ?_, ?_, ?_, ?_, ?_, ?_, ?_, ?_⟩, Lib.hid ((show Still wx wx.drew from ⟨rfl, rfl, rfl, rfl⟩).below _), Lib.hid (⟨fun _ => HBO.out.below ((show Still wx wx.drew from ⟨rfl, rfl, rfl, rfl⟩).below _), fun e => (by rw [hb _ (by decide)] at e; cases e), Turned.of_below ((show Still wx wx.drew from ⟨rfl, rfl, rfl, rfl⟩).below _)⟩)⟩
        all_goals (intro e; first | rfl | (rw [hb _ (by decide)] at e; cases e))
      case stepsD13 =>
        refine ⟨?_, ?_, ?_, ?_, ?_, ?_, ?_, ?_, ?_, ?_, ?_, ?_, ?_, ?_, ?_, ?_, ?_, ?_, ?_, ?_, ?_, ?_, ?_, ?_, ?_, ?_, ?_, ?_, ?_, trivial⟩
        · rintro b a wy hb hd ⟨z58, z59, z60, z61, z62, z63, z64, z65, z66, z67, z68, z69, z70, z71, z72, z73, z74, z75, z76, z77, z78, z79, z80, z81, z82, z83, z84, z85, z86, rfl, HV, HW, HX⟩ K hK
          obtain ⟨h0, h1, h2, h3, h4, h5, h6, h7, h8, h9, h10, h11, h12, h13, h14, h15, h16, h17, h18, h19, h20, h21, h22, h23, h24, h25, h26, h27, h28⟩ := HV.out
          clear hd
          go_simp
          exact hK _ _ ⟨_, _, _, _, _, _, _, _, _, _, _, _, _, _, _, _, _, _, _, _, _, _, _, _, _, _, _, _, _, rfl, Lib.hid ⟨fun _ => rfl, h1, h2, h3, h4, h5, h6, h7, h8, h9, h10, h11, h12, h13, h14, h15, h16, h17, h18, h19, h20, h21, h22, h23, h24, h25, h26, h27, h28⟩, HW, HX⟩
        · rintro b a wy hb hd ⟨z58, z59, z60, z61, z62, z63, z64, z65, z66, z67, z68, z69, z70, z71, z72, z73, z74, z75, z76, z77, z78, z79, z80, z81, z82, z83, z84, z85, z86, rfl, HV, HW, HX⟩ K hK
          obtain ⟨h0, h1, h2, h3, h4, h5, h6, h7, h8, h9, h10, h11, h12, h13, h14, h15, h16, h17, h18, h19, h20, h21, h22, h23, h24, h25, h26, h27, h28⟩ := HV.out
          clear hd
          go_simp
          exact hK _ _ ⟨_, _, _, _, _, _, _, _, _, _, _, _, _, _, _, _, _, _, _, _, _, _, _, _, _, _, _, _, _, rfl, Lib.hid ⟨h0, fun _ => rfl, h2, h3, h4, h5, h6, h7, h8, h9, h10, h11, h12, h13, h14, h15, h16, h17, h18, h19, h20, h21, h22, h23, h24, h25, h26, h27, h28⟩, HW, HX⟩
        · rintro b a wy hb hd ⟨z58, z59, z60, z61, z62, z63, z64, z65, z66, z67, z68, z69, z70, z71, z72, z73, z74, z75, z76, z77, z78, z79, z80, z81, z82, z83, z84, z85, z86, rfl, HV, HW, HX⟩ K hK
          obtain ⟨h0, h1, h2, h3, h4, h5, h6, h7, h8, h9, h10, h11, h12, h13, h14, h15, h16, h17, h18, h19, h20, h21, h22, h23, h24, h25, h26, h27, h28⟩ := HV.out
          clear hd
          go_simp
          exact hK _ _ ⟨_, _, _, _, _, _, _, _, _, _, _, _, _, _, _, _, _, _, _, _, _, _, _, _, _, _, _, _, _, rfl, Lib.hid ⟨h0, h1, fun _ => rfl, h3, h4, h5, h6, h7, h8, h9, h10, h11, h12, h13, h14, h15, h16, h17, h18, h19, h20, h21, h22, h23, h24, h25, h26, h27, h28⟩, HW, HX⟩
        · rintro b a wy hb hd ⟨z58, z59, z60, z61, z62, z63, z64, z65, z66, z67, z68, z69, z70, z71, z72, z73, z74, z75, z76, z77, z78, z79, z80, z81, z82, z83, z84, z85, z86, rfl, HV, HW, HX⟩ K hK
          obtain ⟨h0, h1, h2, h3, h4, h5, h6, h7, h8, h9, h10, h11, h12, h13, h14, h15, h16, h17, h18, h19, h20, h21, h22, h23, h24, h25, h26, h27, h28⟩ := HV.out
          simp [Region.binds] at hd
          obtain rfl := h1 (by simp [hd])
          obtain rfl := h2 (by simp [hd])
          clear hd
          go_simp
          exact hK _ _ ⟨_, _, _, _, _, _, _, _, _, _, _, _, _, _, _, _, _, _, _, _, _, _, _, _, _, _, _, _, _, rfl, Lib.hid ⟨h0, h1, h2, fun _ => rfl, h4, h5, h6, h7, h8, h9, h10, h11, h12, h13, h14, h15, h16, h17, h18, h19, h20, h21, h22, h23, h24, h25, h26, h27, h28⟩, HW, HX⟩
        · rintro b a wy hb hd ⟨z58, z59, z60, z61, z62, z63, z64, z65, z66, z67, z68, z69, z70, z71, z72, z73, z74, z75, z76, z77, z78, z79, z80, z81, z82, z83, z84, z85, z86, rfl, HV, HW, HX⟩ K hK
          obtain ⟨h0, h1, h2, h3, h4, h5, h6, h7, h8, h9, h10, h11, h12, h13, h14, h15, h16, h17, h18, h19, h20, h21, h22, h23, h24, h25, h26, h27, h28⟩ := HV.out
          simp [Region.binds] at hd
          obtain rfl := h3 (by simp [hd])
          clear hd
          go_simp
          exact hK _ _ ⟨_, _, _, _, _, _, _, _, _, _, _, _, _, _, _, _, _, _, _, _, _, _, _, _, _, _, _, _, _, rfl, Lib.hid ⟨h0, h1, h2, h3, fun _ => rfl, h5, h6, h7, h8, h9, h10, h11, h12, h13, h14, h15, h16, h17, h18, h19, h20, h21, h22, h23, h24, h25, h26, h27, h28⟩, HW, HX⟩
        · rintro b a wy hb hd ⟨z58, z59, z60, z61, z62, z63, z64, z65, z66, z67, z68, z69, z70, z71, z72, z73, z74, z75, z76, z77, z78, z79, z80, z81, z82, z83, z84, z85, z86, rfl, HV, HW, HX⟩ K hK
          obtain ⟨h0, h1, h2, h3, h4, h5, h6, h7, h8, h9, h10, h11, h12, h13, h14, h15, h16, h17, h18, h19, h20, h21, h22, h23, h24, h25, h26, h27, h28⟩ := HV.out
          simp [Region.binds] at hd
          obtain rfl := h4 (by simp [hd])
          clear hd
          have hL := HLI.out.below (HB.out.trans HW.out)
          have c := hL.c0
          go_simp
          exact hK _ _ ⟨_, _, _, _, _, _, _, _, _, _, _, _, _, _, _, _, _, _, _, _, _, _, _, _, _, _, _, _, _, rfl, Lib.hid ⟨h0, h1, h2, h3, h4, fun _ => rfl, h6, h7, h8, h9, h10, h11, h12, h13, h14, h15, h16, h17, h18, h19, h20, h21, h22, h23, h24, h25, h26, h27, h28⟩, HW, HX⟩
        · rintro b a wy hb hd ⟨z58, z59, z60, z61, z62, z63, z64, z65, z66, z67, z68, z69, z70, z71, z72, z73, z74, z75, z76, z77, z78, z79, z80, z81, z82, z83, z84, z85, z86, rfl, HV, HW, HX⟩ K hK
          obtain ⟨h0, h1, h2, h3, h4, h5, h6, h7, h8, h9, h10, h11, h12, h13, h14, h15, h16, h17, h18, h19, h20, h21, h22, h23, h24, h25, h26, h27, h28⟩ := HV.out
          clear hd
          go_simp
          exact hK _ _ ⟨_, _, _, _, _, _, _, _, _, _, _, _, _, _, _, _, _, _, _, _, _, _, _, _, _, _, _, _, _, rfl, Lib.hid ⟨h0, h1, h2, h3, h4, h5, fun _ => rfl, h7, h8, h9, h10, h11, h12, h13, h14, h15, h16, h17, h18, h19, h20, h21, h22, h23, h24, h25, h26, h27, h28⟩, HW, HX⟩
        · rintro b a wy hb hd ⟨z58, z59, z60, z61, z62, z63, z64, z65, z66, z67, z68, z69, z70, z71, z72, z73, z74, z75, z76, z77, z78, z79, z80, z81, z82, z83, z84, z85, z86, rfl, HV, HW, HX⟩ K hK
          obtain ⟨h0, h1, h2, h3, h4, h5, h6, h7, h8, h9, h10, h11, h12, h13, h14, h15, h16, h17, h18, h19, h20, h21, h22, h23, h24, h25, h26, h27, h28⟩ := HV.out
          clear hd
          go_simp
          exact hK _ _ ⟨_, _, _, _, _, _, _, _, _, _, _, _, _, _, _, _, _, _, _, _, _, _, _, _, _, _, _, _, _, rfl, Lib.hid ⟨h0, h1, h2, h3, h4, h5, h6, fun _ => rfl, h8, h9, h10, h11, h12, h13, h14, h15, h16, h17, h18, h19, h20, h21, h22, h23, h24, h25, h26, h27, h28⟩, HW, HX⟩
        · rintro b a wy hb hd ⟨z58, z59, z60, z61, z62, z63, z64, z65, z66, z67, z68, z69, z70, z71, z72, z73, z74, z75, z76, z77, z78, z79, z80, z81, z82, z83, z84, z85, z86, rfl, HV, HW, HX⟩ K hK
          obtain ⟨h0, h1, h2, h3, h4, h5, h6, h7, h8, h9, h10, h11, h12, h13, h14, h15, h16, h17, h18, h19, h20, h21, h22, h23, h24, h25, h26, h27, h28⟩ := HV.out
          simp [Region.binds] at hd
          obtain rfl := h6 (by simp [hd])
          obtain rfl := h7 (by simp [hd])
          clear hd
          go_simp
          exact hK _ _ ⟨_, _, _, _, _, _, _, _, _, _, _, _, _, _, _, _, _, _, _, _, _, _, _, _, _, _, _, _, _, rfl, Lib.hid ⟨h0, h1, h2, h3, h4, h5, h6, h7, fun _ => rfl, h9, h10, h11, h12, h13, h14, h15, h16, h17, h18, h19, h20, h21, h22, h23, h24, h25, h26, h27, h28⟩, HW, HX⟩
        · rintro b a wy hb hd ⟨z58, z59, z60, z61, z62, z63, z64, z65, z66, z67, z68, z69, z70, z71, z72, z73, z74, z75, z76, z77, z78, z79, z80, z81, z82, z83, z84, z85, z86, rfl, HV, HW, HX⟩ K hK
          obtain ⟨h0, h1, h2, h3, h4, h5, h6, h7, h8, h9, h10, h11, h12, h13, h14, h15, h16, h17, h18, h19, h20, h21, h22, h23, h24, h25, h26, h27, h28⟩ := HV.out
          simp [Region.binds] at hd
          obtain rfl := h8 (by simp [hd])
          clear hd
          go_simp
          exact hK _ _ ⟨_, _, _, _, _, _, _, _, _, _, _, _, _, _, _, _, _, _, _, _, _, _, _, _, _, _, _, _, _, rfl, Lib.hid ⟨h0, h1, h2, h3, h4, h5, h6, h7, h8, fun _ => rfl, h10, h11, h12, h13, h14, h15, h16, h17, h18, h19, h20, h21, h22, h23, h24, h25, h26, h27, h28⟩, HW, HX⟩
        · rintro b a wy hb hd ⟨z58, z59, z60, z61, z62, z63, z64, z65, z66, z67, z68, z69, z70, z71, z72, z73, z74, z75, z76, z77, z78, z79, z80, z81, z82, z83, z84, z85, z86, rfl, HV, HW, HX⟩ K hK
          obtain ⟨h0, h1, h2, h3, h4, h5, h6, h7, h8, h9, h10, h11, h12, h13, h14, h15, h16, h17, h18, h19, h20, h21, h22, h23, h24, h25, h26, h27, h28⟩ := HV.out
          simp [Region.binds] at hd
          obtain rfl := h9 (by simp [hd])
          clear hd
          have hL := HLI.out.below (HB.out.trans HW.out)
          have c := hL.c1
          go_simp
          exact hK _ _ ⟨_, _, _, _, _, _, _, _, _, _, _, _, _, _, _, _, _, _, _, _, _, _, _, _, _, _, _, _, _, rfl, Lib.hid ⟨h0, h1, h2, h3, h4, h5, h6, h7, h8, h9, fun _ => rfl, h11, h12, h13, h14, h15, h16, h17, h18, h19, h20, h21, h22, h23, h24, h25, h26, h27, h28⟩, HW, HX⟩
        · rintro b a wy hb hd ⟨z58, z59, z60, z61, z62, z63, z64, z65, z66, z67, z68, z69, z70, z71, z72, z73, z74, z75, z76, z77, z78, z79, z80, z81, z82, z83, z84, z85, z86, rfl, HV, HW, HX⟩ K hK
          obtain ⟨h0, h1, h2, h3, h4, h5, h6, h7, h8, h9, h10, h11, h12, h13, h14, h15, h16, h17, h18, h19, h20, h21, h22, h23, h24, h25, h26, h27, h28⟩ := HV.out
          clear hd
          go_simp
          exact hK _ _ ⟨_, _, _, _, _, _, _, _, _, _, _, _, _, _, _, _, _, _, _, _, _, _, _, _, _, _, _, _, _, rfl, Lib.hid ⟨h0, h1, h2, h3, h4, h5, h6, h7, h8, h9, h10, fun _ => rfl, h12, h13, h14, h15, h16, h17, h18, h19, h20, h21, h22, h23, h24, h25, h26, h27, h28⟩, HW, HX⟩
        · rintro b a wy hb hd ⟨z58, z59, z60, z61, z62, z63, z64, z65, z66, z67, z68, z69, z70, z71, z72, z73, z74, z75, z76, z77, z78, z79, z80, z81, z82, z83, z84, z85, z86, rfl, HV, HW, HX⟩ K hK
          obtain ⟨h0, h1, h2, h3, h4, h5, h6, h7, h8, h9, h10, h11, h12, h13, h14, h15, h16, h17, h18, h19, h20, h21, h22, h23, h24, h25, h26, h27, h28⟩ := HV.out
          clear hd
          go_simp
          exact hK _ _ ⟨_, _, _, _, _, _, _, _, _, _, _, _, _, _, _, _, _, _, _, _, _, _, _, _, _, _, _, _, _, rfl, Lib.hid ⟨h0, h1, h2, h3, h4, h5, h6, h7, h8, h9, h10, h11, fun _ => rfl, h13, h14, h15, h16, h17, h18, h19, h20, h21, h22, h23, h24, h25, h26, h27, h28⟩, HW, HX⟩
        · rintro b a wy hb hd ⟨z58, z59, z60, z61, z62, z63, z64, z65, z66, z67, z68, z69, z70, z71, z72, z73, z74, z75, z76, z77, z78, z79, z80, z81, z82, z83, z84, z85, z86, rfl, HV, HW, HX⟩ K hK
          obtain ⟨h0, h1, h2, h3, h4, h5, h6, h7, h8, h9, h10, h11, h12, h13, h14, h15, h16, h17, h18, h19, h20, h21, h22, h23, h24, h25, h26, h27, h28⟩ := HV.out
          clear hd
          go_simp
          exact hK _ _ ⟨_, _, _, _, _, _, _, _, _, _, _, _, _, _, _, _, _, _, _, _, _, _, _, _, _, _, _, _, _, rfl, Lib.hid ⟨h0, h1, h2, h3, h4, h5, h6, h7, h8, h9, h10, h11, h12, fun _ => rfl, h14, h15, h16, h17, h18, h19, h20, h21, h22, h23, h24, h25, h26, h27, h28⟩, HW, HX⟩
        · rintro b a wy hb hd ⟨z58, z59, z60, z61, z62, z63, z64, z65, z66, z67, z68, z69, z70, z71, z72, z73, z74, z75, z76, z77, z78, z79, z80, z81, z82, z83, z84, z85, z86, rfl, HV, HW, HX⟩ K hK
          obtain ⟨h0, h1, h2, h3, h4, h5, h6, h7, h8, h9, h10, h11, h12, h13, h14, h15, h16, h17, h18, h19, h20, h21, h22, h23, h24, h25, h26, h27, h28⟩ := HV.out
          simp [Region.binds] at hd
          obtain rfl := h12 (by simp [hd])
          obtain rfl := h13 (by simp [hd])
          clear hd
          go_simp
          exact hK _ _ ⟨_, _, _, _, _, _, _, _, _, _, _, _, _, _, _, _, _, _, _, _, _, _, _, _, _, _, _, _, _, rfl, Lib.hid ⟨h0, h1, h2, h3, h4, h5, h6, h7, h8, h9, h10, h11, h12, h13, fun _ => rfl, h15, h16, h17, h18, h19, h20, h21, h22, h23, h24, h25, h26, h27, h28⟩, HW, HX⟩
        · rintro b a wy hb hd ⟨z58, z59, z60, z61, z62, z63, z64, z65, z66, z67, z68, z69, z70, z71, z72, z73, z74, z75, z76, z77, z78, z79, z80, z81, z82, z83, z84, z85, z86, rfl, HV, HW, HX⟩ K hK
          obtain ⟨h0, h1, h2, h3, h4, h5, h6, h7, h8, h9, h10, h11, h12, h13, h14, h15, h16, h17, h18, h19, h20, h21, h22, h23, h24, h25, h26, h27, h28⟩ := HV.out
          simp [Region.binds] at hd
          obtain rfl := h14 (by simp [hd])
          clear hd
          go_simp
          exact hK _ _ ⟨_, _, _, _, _, _, _, _, _, _, _, _, _, _, _, _, _, _, _, _, _, _, _, _, _, _, _, _, _, rfl, Lib.hid ⟨h0, h1, h2, h3, h4, h5, h6, h7, h8, h9, h10, h11, h12, h13, h14, fun _ => rfl, h16, h17, h18, h19, h20, h21, h22, h23, h24, h25, h26, h27, h28⟩, HW, HX⟩
        · rintro b a wy hb hd ⟨z58, z59, z60, z61, z62, z63, z64, z65, z66, z67, z68, z69, z70, z71, z72, z73, z74, z75, z76, z77, z78, z79, z80, z81, z82, z83, z84, z85, z86, rfl, HV, HW, HX⟩ K hK
          obtain ⟨h0, h1, h2, h3, h4, h5, h6, h7, h8, h9, h10, h11, h12, h13, h14, h15, h16, h17, h18, h19, h20, h21, h22, h23, h24, h25, h26, h27, h28⟩ := HV.out
          simp [Region.binds] at hd
          obtain rfl := h15 (by simp [hd])
          clear hd
          have hL := HLI.out.below (HB.out.trans HW.out)
          have c3 : wy.cell? ⟨bo, oo + k * 6 + 3, none⟩ = some (.slice ka kl kc) := hL.c3
          have c4 : wy.cell? ⟨bo, oo + k * 6 + 3 + 1, none⟩ = some (.int .i64 torn) := hL.c4
          have c5 : wy.cell? ⟨bo, oo + k * 6 + 3 + 2, none⟩ = some (.int .i64 cut) := hL.c5
          have c4' : wy.cell? ⟨bo, oo + k * 6 + 4, none⟩ = some (.int .i64 torn) := hL.c4
          have c5' : wy.cell? ⟨bo, oo + k * 6 + 5, none⟩ = some (.int .i64 cut) := hL.c5
          go_simp
          exact hK _ _ ⟨_, _, _, _, _, _, _, _, _, _, _, _, _, _, _, _, _, _, _, _, _, _, _, _, _, _, _, _, _, rfl, Lib.hid ⟨h0, h1, h2, h3, h4, h5, h6, h7, h8, h9, h10, h11, h12, h13, h14, h15, fun _ => rfl, h17, h18, h19, h20, h21, h22, h23, h24, h25, h26, h27, h28⟩, HW, HX⟩
        · rintro b a wy hb hd ⟨z58, z59, z60, z61, z62, z63, z64, z65, z66, z67, z68, z69, z70, z71, z72, z73, z74, z75, z76, z77, z78, z79, z80, z81, z82, z83, z84, z85, z86, rfl, HV, HW, HX⟩ K hK
          obtain ⟨h0, h1, h2, h3, h4, h5, h6, h7, h8, h9, h10, h11, h12, h13, h14, h15, h16, h17, h18, h19, h20, h21, h22, h23, h24, h25, h26, h27, h28⟩ := HV.out
          simp [Region.binds] at hd
          obtain rfl := h0 (by simp [hd])
          obtain rfl := h5 (by simp [hd])
          obtain rfl := h10 (by simp [hd])
          obtain rfl := h11 (by simp [hd])
          obtain rfl := h16 (by simp [hd])
          clear hd
          obtain ⟨x0, x1, xt⟩ := HX.out
          go_simp
          go_at_call 13
          refine (carried_any (x0 hb) (by omega) what place (word_le HFI.out.place) (some ⟨g, 0, none⟩) bl cg bs HCM.out.hlen (Nat.le_trans HCM.out.le HCM.out.hcap) (fun w' ht => (HRM.out.turned (xt.trans ht)).has.told) ka kl kc ks torn cut HKP.out.hlen (Nat.le_trans HKP.out.le HKP.out.cap) (fun w' ht => HKP.out.flags.below (B := 0) ((HB.out.trans HW.out).trans (ht.below (Nat.le_trans HB.out.size HW.out.size)))) (flags_early HKP.out.flags) (Nat.le_trans HB.out.size HW.out.size)).mono ?_
          rintro e wz ⟨rfl, ⟨s2, r2, hb2⟩, kt⟩
          try go_simp
          exact hK _ _ ⟨_, _, _, _, _, _, _, _, _, _, _, _, _, _, _, _, _, _, _, _, _, _, _, _, _, _, _, _, _, rfl, Lib.hid ⟨h0, h1, h2, h3, h4, h5, h6, h7, h8, h9, h10, h11, h12, h13, h14, h15, h16, fun _ => rfl, h18, h19, h20, h21, h22, h23, h24, h25, h26, h27, h28⟩, Lib.hid (HW.out.trans (kt.below (Nat.le_trans HB.out.size HW.out.size))), Lib.hid ⟨fun e => (by simp [Inv.mark] at e), fun _ => ⟨s2, r2, hb2⟩, xt.trans kt⟩⟩
        · rintro b a wy hb hd ⟨z58, z59, z60, z61, z62, z63, z64, z65, z66, z67, z68, z69, z70, z71, z72, z73, z74, z75, z76, z77, z78, z79, z80, z81, z82, z83, z84, z85, z86, rfl, HV, HW, HX⟩ K hK
          obtain ⟨h0, h1, h2, h3, h4, h5, h6, h7, h8, h9, h10, h11, h12, h13, h14, h15, h16, h17, h18, h19, h20, h21, h22, h23, h24, h25, h26, h27, h28⟩ := HV.out
          simp [Region.binds] at hd
          obtain rfl := h17 (by simp [hd])
          clear hd
          go_simp
          exact hK _ _ ⟨_, _, _, _, _, _, _, _, _, _, _, _, _, _, _, _, _, _, _, _, _, _, _, _, _, _, _, _, _, rfl, Lib.hid ⟨h0, h1, h2, h3, h4, h5, h6, h7, h8, h9, h10, h11, h12, h13, h14, h15, h16, h17, fun _ => rfl, h19, h20, h21, h22, h23, h24, h25, h26, h27, h28⟩, HW, HX⟩
        · rintro b a wy hb hd ⟨z58, z59, z60, z61, z62, z63, z64, z65, z66, z67, z68, z69, z70, z71, z72, z73, z74, z75, z76, z77, z78, z79, z80, z81, z82, z83, z84, z85, z86, rfl, HV, HW, HX⟩ K hK
          obtain ⟨h0, h1, h2, h3, h4, h5, h6, h7, h8, h9, h10, h11, h12, h13, h14, h15, h16, h17, h18, h19, h20, h21, h22, h23, h24, h25, h26, h27, h28⟩ := HV.out
          simp [Region.binds] at hd
          obtain rfl := h18 (by simp [hd])
          clear hd
          go_simp
          exact hK _ _ ⟨_, _, _, _, _, _, _, _, _, _, _, _, _, _, _, _, _, _, _, _, _, _, _, _, _, _, _, _, _, rfl, Lib.hid ⟨h0, h1, h2, h3, h4, h5, h6, h7, h8, h9, h10, h11, h12, h13, h14, h15, h16, h17, h18, fun _ => rfl, h20, h21, h22, h23, h24, h25, h26, h27, h28⟩, HW, HX⟩
        · rintro b a wy hb hd ⟨z58, z59, z60, z61, z62, z63, z64, z65, z66, z67, z68, z69, z70, z71, z72, z73, z74, z75, z76, z77, z78, z79, z80, z81, z82, z83, z84, z85, z86, rfl, HV, HW, HX⟩ K hK
          obtain ⟨h0, h1, h2, h3, h4, h5, h6, h7, h8, h9, h10, h11, h12, h13, h14, h15, h16, h17, h18, h19, h20, h21, h22, h23, h24, h25, h26, h27, h28⟩ := HV.out
          simp [Region.binds] at hd
          obtain rfl := h19 (by simp [hd])
          clear hd
          go_simp
          exact hK _ _ ⟨_, _, _, _, _, _, _, _, _, _, _, _, _, _, _, _, _, _, _, _, _, _, _, _, _, _, _, _, _, rfl, Lib.hid ⟨h0, h1, h2, h3, h4, h5, h6, h7, h8, h9, h10, h11, h12, h13, h14, h15, h16, h17, h18, h19, fun _ => rfl, h21, h22, h23, h24, h25, h26, h27, h28⟩, HW, HX⟩
        · rintro b a wy hb hd ⟨z58, z59, z60, z61, z62, z63, z64, z65, z66, z67, z68, z69, z70, z71, z72, z73, z74, z75, z76, z77, z78, z79, z80, z81, z82, z83, z84, z85, z86, rfl, HV, HW, HX⟩ K hK
          obtain ⟨h0, h1, h2, h3, h4, h5, h6, h7, h8, h9, h10, h11, h12, h13, h14, h15, h16, h17, h18, h19, h20, h21, h22, h23, h24, h25, h26, h27, h28⟩ := HV.out
          simp [Region.binds] at hd
          obtain rfl := h19 (by simp [hd])
          clear hd
          go_simp
          exact hK _ _ ⟨_, _, _, _, _, _, _, _, _, _, _, _, _, _, _, _, _, _, _, _, _, _, _, _, _, _, _, _, _, rfl, Lib.hid ⟨h0, h1, h2, h3, h4, h5, h6, h7, h8, h9, h10, h11, h12, h13, h14, h15, h16, h17, h18, h19, h20, fun _ => rfl, h22, h23, h24, h25, h26, h27, h28⟩, HW, HX⟩
        · rintro b a wy hb hd ⟨z58, z59, z60, z61, z62, z63, z64, z65, z66, z67, z68, z69, z70, z71, z72, z73, z74, z75, z76, z77, z78, z79, z80, z81, z82, z83, z84, z85, z86, rfl, HV, HW, HX⟩ K hK
          obtain ⟨h0, h1, h2, h3, h4, h5, h6, h7, h8, h9, h10, h11, h12, h13, h14, h15, h16, h17, h18, h19, h20, h21, h22, h23, h24, h25, h26, h27, h28⟩ := HV.out
          simp [Region.binds] at hd
          obtain rfl := h19 (by simp [hd])
          clear hd
          go_simp
          exact hK _ _ ⟨_, _, _, _, _, _, _, _, _, _, _, _, _, _, _, _, _, _, _, _, _, _, _, _, _, _, _, _, _, rfl, Lib.hid ⟨h0, h1, h2, h3, h4, h5, h6, h7, h8, h9, h10, h11, h12, h13, h14, h15, h16, h17, h18, h19, h20, h21, fun _ => rfl, h23, h24, h25, h26, h27, h28⟩, HW, HX⟩
        · rintro b a wy hb hd ⟨z58, z59, z60, z61, z62, z63, z64, z65, z66, z67, z68, z69, z70, z71, z72, z73, z74, z75, z76, z77, z78, z79, z80, z81, z82, z83, z84, z85, z86, rfl, HV, HW, HX⟩ K hK
          obtain ⟨h0, h1, h2, h3, h4, h5, h6, h7, h8, h9, h10, h11, h12, h13, h14, h15, h16, h17, h18, h19, h20, h21, h22, h23, h24, h25, h26, h27, h28⟩ := HV.out
          simp [Region.binds] at hd
          obtain rfl := h19 (by simp [hd])
          obtain rfl := h21 (by simp [hd])
          obtain rfl := h22 (by simp [hd])
          clear hd
          go_simp
          exact hK _ _ ⟨_, _, _, _, _, _, _, _, _, _, _, _, _, _, _, _, _, _, _, _, _, _, _, _, _, _, _, _, _, rfl, Lib.hid ⟨h0, h1, h2, h3, h4, h5, h6, h7, h8, h9, h10, h11, h12, h13, h14, h15, h16, h17, h18, h19, h20, h21, h22, fun _ => rfl, h24, h25, h26, h27, h28⟩, HW, HX⟩
        · rintro b a wy hb hd ⟨z58, z59, z60, z61, z62, z63, z64, z65, z66, z67, z68, z69, z70, z71, z72, z73, z74, z75, z76, z77, z78, z79, z80, z81, z82, z83, z84, z85, z86, rfl, HV, HW, HX⟩ K hK
          obtain ⟨h0, h1, h2, h3, h4, h5, h6, h7, h8, h9, h10, h11, h12, h13, h14, h15, h16, h17, h18, h19, h20, h21, h22, h23, h24, h25, h26, h27, h28⟩ := HV.out
          simp [Region.binds] at hd
          obtain rfl := h19 (by simp [hd])
          obtain rfl := h23 (by simp [hd])
          clear hd
          go_simp
          exact hK _ _ ⟨_, _, _, _, _, _, _, _, _, _, _, _, _, _, _, _, _, _, _, _, _, _, _, _, _, _, _, _, _, rfl, Lib.hid ⟨h0, h1, h2, h3, h4, h5, h6, h7, h8, h9, h10, h11, h12, h13, h14, h15, h16, h17, h18, h19, h20, h21, h22, h23, fun _ => rfl, h25, h26, h27, h28⟩, HW, HX⟩
        · rintro b a wy hb hd ⟨z58, z59, z60, z61, z62, z63, z64, z65, z66, z67, z68, z69, z70, z71, z72, z73, z74, z75, z76, z77, z78, z79, z80, z81, z82, z83, z84, z85, z86, rfl, HV, HW, HX⟩ K hK
          obtain ⟨h0, h1, h2, h3, h4, h5, h6, h7, h8, h9, h10, h11, h12, h13, h14, h15, h16, h17, h18, h19, h20, h21, h22, h23, h24, h25, h26, h27, h28⟩ := HV.out
          simp [Region.binds] at hd
          obtain rfl := h19 (by simp [hd])
          obtain rfl := h24 (by simp [hd])
          clear hd
          have hL := HLI.out.below (HB.out.trans HW.out)
          have c : wy.cell? ⟨bo, oo + k * 6 + 2, none⟩ = some (.slice ba bl bc) := hL.c2
          go_simp
          exact hK _ _ ⟨_, _, _, _, _, _, _, _, _, _, _, _, _, _, _, _, _, _, _, _, _, _, _, _, _, _, _, _, _, rfl, Lib.hid ⟨h0, h1, h2, h3, h4, h5, h6, h7, h8, h9, h10, h11, h12, h13, h14, h15, h16, h17, h18, h19, h20, h21, h22, h23, h24, fun _ => rfl, h26, h27, h28⟩, HW, HX⟩
        · rintro b a wy hb hd ⟨z58, z59, z60, z61, z62, z63, z64, z65, z66, z67, z68, z69, z70, z71, z72, z73, z74, z75, z76, z77, z78, z79, z80, z81, z82, z83, z84, z85, z86, rfl, HV, HW, HX⟩ K hK
          obtain ⟨h0, h1, h2, h3, h4, h5, h6, h7, h8, h9, h10, h11, h12, h13, h14, h15, h16, h17, h18, h19, h20, h21, h22, h23, h24, h25, h26, h27, h28⟩ := HV.out
          simp [Region.binds] at hd
          obtain rfl := h19 (by simp [hd])
          obtain rfl := h20 (by simp [hd])
          obtain rfl := h25 (by simp [hd])
          clear hd
          obtain ⟨x0, x1, xt⟩ := HX.out
          go_simp
          go_at_call 14
          refine (equal_yes (some ⟨g, 0, none⟩) ba bl bl cg bc bs bs rfl HCM.out.hlen HCM.out.hlen wy (HRM.out.turned xt).has.told (HTW.out wy (HB.out.trans HW.out))).mono ?_
          rintro e wz ⟨rfl, rfl⟩
          try go_simp
          exact hK _ _ ⟨_, _, _, _, _, _, _, _, _, _, _, _, _, _, _, _, _, _, _, _, _, _, _, _, _, _, _, _, _, rfl, Lib.hid ⟨h0, h1, h2, h3, h4, h5, h6, h7, h8, h9, h10, h11, h12, h13, h14, h15, h16, h17, h18, h19, h20, h21, h22, h23, h24, h25, fun _ => rfl, h27, h28⟩, HW, HX⟩
        · rintro b a wy hb hd ⟨z58, z59, z60, z61, z62, z63, z64, z65, z66, z67, z68, z69, z70, z71, z72, z73, z74, z75, z76, z77, z78, z79, z80, z81, z82, z83, z84, z85, z86, rfl, HV, HW, HX⟩ K hK
          obtain ⟨h0, h1, h2, h3, h4, h5, h6, h7, h8, h9, h10, h11, h12, h13, h14, h15, h16, h17, h18, h19, h20, h21, h22, h23, h24, h25, h26, h27, h28⟩ := HV.out
          simp [Region.binds] at hd
          obtain rfl := h19 (by simp [hd])
          obtain rfl := h26 (by simp [hd])
          clear hd
          go_simp
          exact hK _ _ ⟨_, _, _, _, _, _, _, _, _, _, _, _, _, _, _, _, _, _, _, _, _, _, _, _, _, _, _, _, _, rfl, Lib.hid ⟨h0, h1, h2, h3, h4, h5, h6, h7, h8, h9, h10, h11, h12, h13, h14, h15, h16, h17, h18, h19, h20, h21, h22, h23, h24, h25, h26, fun _ => rfl, h28⟩, HW, HX⟩
        · rintro b a wy hb hd ⟨z58, z59, z60, z61, z62, z63, z64, z65, z66, z67, z68, z69, z70, z71, z72, z73, z74, z75, z76, z77, z78, z79, z80, z81, z82, z83, z84, z85, z86, rfl, HV, HW, HX⟩ K hK
          obtain ⟨h0, h1, h2, h3, h4, h5, h6, h7, h8, h9, h10, h11, h12, h13, h14, h15, h16, h17, h18, h19, h20, h21, h22, h23, h24, h25, h26, h27, h28⟩ := HV.out
          simp [Region.binds] at hd
          obtain rfl := h19 (by simp [hd])
          obtain rfl := h27 (by simp [hd])
          clear hd
          go_simp
          exact hK _ _ ⟨_, _, _, _, _, _, _, _, _, _, _, _, _, _, _, _, _, _, _, _, _, _, _, _, _, _, _, _, _, rfl, Lib.hid ⟨h0, h1, h2, h3, h4, h5, h6, h7, h8, h9, h10, h11, h12, h13, h14, h15, h16, h17, h18, h19, h20, h21, h22, h23, h24, h25, h26, h27, fun _ => rfl⟩, HW, HX⟩
      case doneD13 =>
        rintro b a wy hb ⟨z58, z59, z60, z61, z62, z63, z64, z65, z66, z67, z68, z69, z70, z71, z72, z73, z74, z75, z76, z77, z78, z79, z80, z81, z82, z83, z84, z85, z86, rfl, HV, HW, HX⟩
        obtain ⟨h0, h1, h2, h3, h4, h5, h6, h7, h8, h9, h10, h11, h12, h13, h14, h15, h16, h17, h18, h19, h20, h21, h22, h23, h24, h25, h26, h27, h28⟩ := HV.out
        obtain rfl := h0 (hb 0)
        obtain rfl := h1 (hb 1)
        obtain rfl := h2 (hb 2)
        obtain rfl := h3 (hb 3)
        obtain rfl := h4 (hb 4)
        obtain rfl := h5 (hb 5)
        obtain rfl := h6 (hb 6)
        obtain rfl := h7 (hb 7)
        obtain rfl := h8 (hb 8)
        obtain rfl := h9 (hb 9)
        obtain rfl := h10 (hb 10)
        obtain rfl := h11 (hb 11)
        obtain rfl := h12 (hb 12)
        obtain rfl := h13 (hb 13)
        obtain rfl := h14 (hb 14)
        obtain rfl := h15 (hb 15)
        obtain rfl := h16 (hb 16)
        obtain rfl := h17 (hb 17)
        obtain rfl := h18 (hb 18)
        obtain rfl := h19 (hb 19)
        obtain rfl := h20 (hb 20)
        obtain rfl := h21 (hb 21)
        obtain rfl := h22 (hb 22)
        obtain rfl := h23 (hb 23)
        obtain rfl := h24 (hb 24)
        obtain rfl := h25 (hb 25)
        obtain rfl := h26 (hb 26)
        obtain rfl := h27 (hb 27)
        obtain rfl := h28 (hb 28)
        clear HV h0 h1 h2 h3 h4 h5 h6 h7 h8 h9 h10 h11 h12 h13 h14 h15 h16 h17 h18 h19 h20 h21 h22 h23 h24 h25 h26 h27 h28
        obtain ⟨x0, x1, xt⟩ := HX.out
        obtain ⟨s2, r2, hb2⟩ := x1 (hb 17)
        have HBO2 := Lib.hid hb2
        replace HRM := Lib.hid (HRM.out.turned xt)
        replace HB := Lib.hid (HB.out.trans HW.out)
        clear HX x0 x1 xt hb hb2 HW HBO
        obtain ⟨wm, hwm⟩ : ∃ q, q = wy := ⟨_, rfl⟩
        subst hwm
        have HLN := Lib.hid (show bs.length = bl from HCM.out.hlen)
        have hbm := Nat.le_trans HCM.out.le HCM.out.hcap
        unfold maxLen at hbm
        go_wp2_with fail
        go_loopw [89] (fun x wv => ∃ z : Nat, z ≤ bl ∧ x = .int .i64 (z : Int) ∧ Hid (Over wm wv g bl)) (fun x _ => bl - (intOf x).toNat)
        case atStart => exact ⟨0, Nat.zero_le _, rfl, Lib.hid (Over.start HRM.out.has HLN.out)⟩
        case round =>
          obtain ⟨z, hz, rfl, HOV⟩ := hrel
          by_cases hzt : z < bl
          case pos =>
            obtain ⟨cc, hcell⟩ := HOV.out.at hzt
            have hf0 := HRM.out.free z (by rw [HLN.out]; exact hzt)
            rw [Nat.zero_add] at hf0
            have hfz := (HOV.out.wrote.frz ⟨g, z, none⟩).trans hf0
            have HON := Lib.hid (HOV.out.next hzt (((cc.toNat : Int) + 1) % 256) (cc + 1) (succ8 cc))
            have hzc : (z : Int) < (bl : Int) := by omega
            go_wp2_with fail
            go_roundw
            case rel => exact ⟨z + 1, by omega, by go_num, Lib.hid HON.out⟩
            case measure => simp [intOf]; omega
          case neg =>
            obtain rfl : z = bl := by omega
            have HBO3 := Lib.hid (HBO2.out.wrote HRM.out HOV.out.wrote)
            have HB3 := Lib.hid (HB.out.trans (HOV.out.wrote.below HGB.out))
            clear HBO2 HB HRM
            go_wp2_with fail
            go_roundw
            case rel => exact ⟨k + 1, by omega, by go_num, Lib.hid ⟨s2, r2, HBO3.out⟩, HB3⟩
            case measure => simp [intOf]; omega
    case neg =>
      have hcond : (¬ (k : Int) < (len : Int)) ∨ ((k : Int) < (len : Int) ∧ ¬ (k : Int) < 40) := by omega
      obtain ⟨cv, wv, hra⟩ := HBO.out.ris
      have HRA := Lib.hid hra
      have c0 := hra.c0
      have c1 := hra.c1
      have c2 := hra.c2
      have c3 := hra.c3
      have c4 := hra.c4
      clear hra hgo
      rcases hcond with h2 | ⟨h2, h3⟩
      all_goals
        go_wp2_with fail
        refine (eqdisks_any HBO.out.is HRA.out HBO.out.tie).mono ?_
        rintro e w9 ⟨rfl, kk⟩
        replace HB := Lib.hid (HB.out.trans (kk.mono HB.out.size))
        clear kk
        go_wp2_with fail
        refine (HA.out _ HB.out).mono ?_
        rintro e wl ⟨rfl, kl⟩
        go_wp2_with fail
        go_ret
        exact ⟨rfl, kl⟩
end Go.Proofs.Ythcjhbjhghfhjaa.Dsk
