/- Several texts in one: BtG. (Written by bin/prune.py.) -/
import Derived.Test.YtogchamogbendaaGreatQau
/- BaseNone's walk. (Written by bin/gen_btg.py.) -/
namespace Go.Proofs.YtogchamogbendaaGreat.Bs
set_option maxRecDepth 100000
open Go.RowKit Go.Proofs.YtogchamogbendaaGreat.Oct Go.Proofs.YtogchamogbendaaGreat.Mv Go.Proofs.YtogchamogbendaaGreat.Tl Go.Proofs.YtogchamogbendaaGreat.Pk Go.Proofs.YtogchamogbendaaGreat.Pl Go.Maps Go.ChangeMaps
open Go.Proofs.YtogchamogbendaaGreat.Dsk (dT)
open Go.Proofs.YtogchamogbendaaGreat.Su (Sup nth)
set_option linter.unusedVariables false
set_option linter.unusedSimpArgs false
set_option pp.deepTerms true

theorem u16_nat {n : Int} (h : (Lit.int .u16 n).wf = true) : ∃ c : Nat, n = (c : Int) ∧ c < 65536 := by
  have h2 : IntKind.u16.min ≤ n ∧ n ≤ IntKind.u16.max := by simpa [Lit.wf] using h
  have h0 : IntKind.u16.min = 0 := rfl
  have h1 : IntKind.u16.max = 65535 := rfl
  rw [h0, h1] at h2
  exact ⟨n.toNat, by omega, by omega⟩
theorem fresh_says (n p : Nat) (hp : p < n) : (Dsk.fresh n).says p = z128 := by
  rw [says_still rfl]
  show ((List.replicate (n * 128) (0 : UInt8)).drop (p * 128)).take 128 = List.replicate 128 0
  rw [List.drop_replicate, List.take_replicate]
  congr 1
  omega
theorem no_pick {a b : List UInt8} (ha : ¬ Su.Holds a) (hb : ¬ Su.Holds b) : Su.perr a b ≠ 0 := by
  rw [(Su.pick_none (fun h => ha h.1) (fun h => hb h.1)).2.2]
  decide
/-- A page that begins with no super's kind is none. -/
theorem no_super {bs : List UInt8} {c : UInt8} {l : List UInt8} (h : bs = c :: l) (hc : c ≠ 6) : ¬ Su.Holds bs := by
  intro k
  have := k.2.2.2
  rw [h] at this
  have e := congrArg List.head? this
  rw [Su.head_page] at e
  exact hc (by simpa using e.symm)
theorem z128_no : ¬ Su.Holds z128 := no_super (c := 0) (l := List.replicate 127 0) rfl (by decide)
theorem set_head {l : List UInt8} (h : l.length = 128) (c : UInt8) : l.set 0 c = c :: l.drop 1 := by
  cases l with
  | nil => cases h
  | cons x l => rfl
def zero44 : List Value := [.pointer none, .pointer none, .pointer none, .slice none 0 0, .slice none 0 0, (.int .u64 0), (.int .u32 0), (.int .u32 0), (.int .u32 0), (.int .u32 0), (.int .u32 0), (.int .u32 0), (.int .u32 0), (.int .u32 0), (.int .u32 0), (.int .u64 0), (.int .u64 0), (.int .u64 0), (.int .u64 0), (.int .u64 0), (.int .u64 0), (.int .u64 0), (.int .u64 0), (.int .u64 0), (.int .u32 0), (.int .u32 0), (.int .u32 0), (.int .u32 0), (.int .u32 0), (.int .u32 0), (.int .u32 0), (.int .u32 0), (.int .u32 0), (.int .u64 0), (.int .u64 0), (.int .u64 0), (.int .u64 0), (.int .u64 0), (.int .u64 0), (.int .u64 0), (.int .u64 0), .map none, .bool false, .pointer none]
set_option maxHeartbeats 4000000 in
theorem none_walk (n : Int) (one two : Int) (w : World) (hn : (Lit.int .i64 n).wf = true) (h1 : (Lit.int .u16 one).wf = true) (h2 : (Lit.int .u16 two).wf = true) : Calls Tryz.prog 6 #[.int .i64 n, .int .u16 one, .int .u16 two] w fun e w' => e = .returned (.bool true) ∧ Below w.heap.size w w' := by
  obtain ⟨o1, rfl, ho1⟩ := u16_nat h1
  obtain ⟨o2, rfl, ho2⟩ := u16_nat h2
  have hz := base_zero
  have R1 := alloc_rowV w 72 zero44
  have B1 := (Below.refl w.heap.size w).alloc (Nat.le_refl _) (.cells zero44.toArray 72)
  have e1 : (w.alloc (.cells zero44.toArray 72)).heap.size = w.heap.size + 1 := by simp
  have B2 := (Below.refl _ (w.alloc (.cells zero44.toArray 72))).alloc (Nat.le_refl _) (.cells #[.pointer none, .pointer (some ⟨w.heap.size, 0, none⟩)] 24)
  have R2 := alloc_rowV (w.alloc (.cells zero44.toArray 72)) 24 [.pointer none, .pointer (some ⟨w.heap.size, 0, none⟩)]
  rw [e1] at R2 B2
  have HB0 := Lib.hid (B1.trans (B2.mono (by omega)))
  have HC := Lib.hid (show ((w.alloc (.cells zero44.toArray 72)).alloc (.cells #[.pointer none, .pointer (some ⟨w.heap.size, 0, none⟩)] 24)).cell? ⟨w.heap.size, 43, none⟩ = some (.pointer none) from (R1.below (by omega) B2).cellAt (i := 43) rfl)
  have HR2 := Lib.hid R2
  clear R1 B1 B2 R2 e1 h1 h2
  unfold zero44 at HB0 HC HR2
  go_enter Tryz.func6, Tryz.ntmps6
  go_upto_region 2 with (fail)
  generalize (w.alloc (.cells #[.pointer none, .pointer none, .pointer none, .slice none 0 0, .slice none 0 0, (.int .u64 0), (.int .u32 0), (.int .u32 0), (.int .u32 0), (.int .u32 0), (.int .u32 0), (.int .u32 0), (.int .u32 0), (.int .u32 0), (.int .u32 0), (.int .u64 0), (.int .u64 0), (.int .u64 0), (.int .u64 0), (.int .u64 0), (.int .u64 0), (.int .u64 0), (.int .u64 0), (.int .u64 0), (.int .u32 0), (.int .u32 0), (.int .u32 0), (.int .u32 0), (.int .u32 0), (.int .u32 0), (.int .u32 0), (.int .u32 0), (.int .u32 0), (.int .u64 0), (.int .u64 0), (.int .u64 0), (.int .u64 0), (.int .u64 0), (.int .u64 0), (.int .u64 0), (.int .u64 0), .map none, .bool false, .pointer none] 72)).alloc (.cells #[.pointer none, .pointer (some ⟨w.heap.size, 0, none⟩)] 24) = w1 at *
  go_loopw [27] (fun i wr => ∃ k : Nat, k ≤ 2 ∧ i = .int .i64 (k : Int) ∧ Hid (Below w1.heap.size w1 wr)) (fun i _ => 2 - (Go.RowKit.intOf i).toNat)
  case atStart => exact ⟨0, by omega, rfl, Lib.hid (Below.refl _ _)⟩
  case round =>
    obtain ⟨k, hk, rfl, HBr⟩ := hrel
    have r2 := HR2.out.below HR2.out.lt HBr.out
    rcases (show k = 0 ∨ k = 1 ∨ k = 2 by omega) with rfl | rfl | rfl
    · have c0 := r2.cellAt (i := 0) rfl
      have HN := Lib.hid (show ∀ wx, Below w1.heap.size w1 wx → BNay wx (.pointer none) from fun _ _ => .inl rfl)
      clear r2
      go_wp2_with fail
      refine (block_any 1 (by omega) _).mono ?_
      rintro e wb ⟨g, rfl, _, _, kz⟩
      have HBb := Lib.hid (HBr.out.trans (kz.mono HBr.out.size))
      have HX := Lib.hid (HN.out wb HBb.out)
      clear kz HBr HN c0
      go_wp2_with fail
      refine (put_nay _ _ _ HX.out).mono ?_
      rintro e w' ⟨rfl, rfl⟩
      go_wp2_with fail
      refine (read_nay _ _ _ HX.out).mono ?_
      rintro e w' ⟨rfl, rfl⟩
      go_wp2_with fail
      refine (over_nay _ _ _ _ HX.out).mono ?_
      rintro e w' ⟨rfl, rfl⟩
      go_wp2_with fail
      refine (up_nay _ _ _ HX.out).mono ?_
      rintro e w' ⟨rfl, rfl⟩
      go_wp2_with fail
      refine (down_nay _ _ _ HX.out).mono ?_
      rintro e w' ⟨rfl, rfl⟩
      go_wp2_with fail
      refine (setroot_nay _ _ _ _ HX.out).mono ?_
      rintro e w' ⟨rfl, rfl⟩
      go_wp2_with fail
      refine (setmark_nay _ _ _ _ HX.out).mono ?_
      rintro e w' ⟨rfl, rfl⟩
      go_wp2_with fail
      refine (commit_nay _ _ HX.out).mono ?_
      rintro e w' ⟨rfl, rfl⟩
      go_wp2_with fail
      refine (back_nay _ _ HX.out).mono ?_
      rintro e w' ⟨rfl, rfl⟩
      go_wp2_with fail
      refine (fresh_nay _ _ _ HX.out).mono ?_
      rintro e w' ⟨rfl, rfl⟩
      go_wp2_with fail
      refine (broken_nay _ _ HX.out).mono ?_
      rintro e w' ⟨rfl, rfl⟩
      go_wp2_with fail
      refine (gen_nay _ _ HX.out).mono ?_
      rintro e w' ⟨rfl, rfl⟩
      go_wp2_with fail
      refine (blocks_nay _ _ HX.out).mono ?_
      rintro e w' ⟨rfl, rfl⟩
      go_wp2_with fail
      refine (root_nay _ _ _ HX.out).mono ?_
      rintro e w' ⟨rfl, rfl⟩
      go_wp2_with fail
      refine (count_nay _ _ _ HX.out).mono ?_
      rintro e w' ⟨rfl, rfl⟩
      go_wp2_with fail
      refine (room_nay _ _ HX.out).mono ?_
      rintro e w' ⟨rfl, rfl⟩
      go_wp2_with fail
      refine (waits_nay _ _ HX.out).mono ?_
      rintro e w' ⟨rfl, rfl⟩
      go_wp2_with fail
      refine (mark_nay _ _ _ HX.out).mono ?_
      rintro e w' ⟨rfl, rfl⟩
      go_wp2_with fail
      go_roundw
      case rel => exact ⟨1, by omega, rfl, HBb⟩
      case measure => simp [Go.RowKit.intOf]
    · have c0 := r2.cellAt (i := 1) rfl
      have HN := Lib.hid (show ∀ wx, Below w1.heap.size w1 wx → BNay wx (.pointer (some ⟨w.heap.size, 0, none⟩)) from fun wx kx => (BNay.below (.inr ⟨_, rfl, HC.out⟩) kx))
      clear r2
      go_wp2_with fail
      refine (block_any 1 (by omega) _).mono ?_
      rintro e wb ⟨g, rfl, _, _, kz⟩
      have HBb := Lib.hid (HBr.out.trans (kz.mono HBr.out.size))
      have HX := Lib.hid (HN.out wb HBb.out)
      clear kz HBr HN c0
      go_wp2_with fail
      refine (put_nay _ _ _ HX.out).mono ?_
      rintro e w' ⟨rfl, rfl⟩
      go_wp2_with fail
      refine (read_nay _ _ _ HX.out).mono ?_
      rintro e w' ⟨rfl, rfl⟩
      go_wp2_with fail
      refine (over_nay _ _ _ _ HX.out).mono ?_
      rintro e w' ⟨rfl, rfl⟩
      go_wp2_with fail
      refine (up_nay _ _ _ HX.out).mono ?_
      rintro e w' ⟨rfl, rfl⟩
      go_wp2_with fail
      refine (down_nay _ _ _ HX.out).mono ?_
      rintro e w' ⟨rfl, rfl⟩
      go_wp2_with fail
      refine (setroot_nay _ _ _ _ HX.out).mono ?_
      rintro e w' ⟨rfl, rfl⟩
      go_wp2_with fail
      refine (setmark_nay _ _ _ _ HX.out).mono ?_
      rintro e w' ⟨rfl, rfl⟩
      go_wp2_with fail
      refine (commit_nay _ _ HX.out).mono ?_
      rintro e w' ⟨rfl, rfl⟩
      go_wp2_with fail
      refine (back_nay _ _ HX.out).mono ?_
      rintro e w' ⟨rfl, rfl⟩
      go_wp2_with fail
      refine (fresh_nay _ _ _ HX.out).mono ?_
      rintro e w' ⟨rfl, rfl⟩
      go_wp2_with fail
      refine (broken_nay _ _ HX.out).mono ?_
      rintro e w' ⟨rfl, rfl⟩
      go_wp2_with fail
      refine (gen_nay _ _ HX.out).mono ?_
      rintro e w' ⟨rfl, rfl⟩
      go_wp2_with fail
      refine (blocks_nay _ _ HX.out).mono ?_
      rintro e w' ⟨rfl, rfl⟩
      go_wp2_with fail
      refine (root_nay _ _ _ HX.out).mono ?_
      rintro e w' ⟨rfl, rfl⟩
      go_wp2_with fail
      refine (count_nay _ _ _ HX.out).mono ?_
      rintro e w' ⟨rfl, rfl⟩
      go_wp2_with fail
      refine (room_nay _ _ HX.out).mono ?_
      rintro e w' ⟨rfl, rfl⟩
      go_wp2_with fail
      refine (waits_nay _ _ HX.out).mono ?_
      rintro e w' ⟨rfl, rfl⟩
      go_wp2_with fail
      refine (mark_nay _ _ _ HX.out).mono ?_
      rintro e w' ⟨rfl, rfl⟩
      go_wp2_with fail
      go_roundw
      case rel => exact ⟨2, by omega, rfl, HBb⟩
      case measure => simp [Go.RowKit.intOf]
    · clear r2
      go_wp2_with fail
      refine (dnew 20 (by omega) (by omega) _).mono ?_
      rintro e w2 ⟨d, rfl, hd, kz⟩
      have HD := Lib.hid hd
      have HKS := Lib.hid kz.size
      have HB2 := Lib.hid (HB0.out.trans ((HBr.out.trans (kz.mono HBr.out.size)).mono HB0.out.size))
      clear hd kz
      go_wp2_with fail
      refine (open_no HD.out rfl (n := 20) rfl (by omega) (by omega) (no_pick (by rw [fresh_says 20 0 (by omega)]; exact z128_no) (by rw [fresh_says 20 1 (by omega)]; exact z128_no))).mono ?_
      rintro e w3 ⟨rfl, kz⟩
      have HD3 := Lib.hid (HD.out.below kz)
      have HB3 := Lib.hid (HB2.out.trans (kz.mono HB2.out.size))
      have HPR := Lib.hid (show ∀ k, k < wr.heap.size → k < w3.heap.size from fun k hk => Nat.lt_of_lt_of_le hk (Nat.le_trans HKS.out kz.size))
      clear kz HD HB2
      go_wp2_with fail
      refine (block_any o1 ho1 _).mono ?_
      rintro e w4 ⟨g1, rfl, hg1, r1, kz⟩
      have HD4 := Lib.hid (HD3.out.below kz)
      have HB4 := Lib.hid (HB3.out.trans (kz.mono HB3.out.size))
      have HR4 := Lib.hid r1
      have HL4 := Lib.hid (And.intro hg1 kz.size)
      clear kz r1 hg1 HD3
      go_wp2_with fail
      refine (block_any o2 ho2 _).mono ?_
      rintro e w5 ⟨g2, rfl, hg2, r2, kz⟩
      have HD5 := Lib.hid (HD4.out.below kz)
      have HB5 := Lib.hid (HB4.out.trans (kz.mono HB4.out.size))
      have HR5 := Lib.hid (show Row w5 g1 (blk o1) from (kz.block g1 (lt_of_heap HR4.out)).trans HR4.out)
      have HR6 := Lib.hid r2
      have hne : g1 ≠ g2 := by have := lt_of_heap HR4.out; omega
      have HL5 := Lib.hid (And.intro hne (And.intro hg2 (And.intro kz.size (Nat.le_trans HB3.out.size HL4.out.1))))
      clear kz r2 hg2 HD4 HB4 hne
      obtain ⟨v1, hc1⟩ : ∃ v, w5.cell? ⟨g1, 0, none⟩ = some (.int .u8 v) := ⟨_, by have := HR5.out.has 0 (by rw [length_blk]; omega); rw [Nat.zero_add] at this; exact this⟩
      obtain ⟨v2, hc2⟩ : ∃ v, w5.cell? ⟨g2, 0, none⟩ = some (.int .u8 v) := ⟨_, by have := HR6.out.has 0 (by rw [length_blk]; omega); rw [Nat.zero_add] at this; exact this⟩
      have hf1 : w5.frozen? ⟨g1, 0, none⟩ = false := frozen_of_row w5 g1 0 _ _ HR5.out
      have hf2 : w5.frozen? ⟨g2, 0, none⟩ = false := frozen_of_row w5 g2 0 _ _ HR6.out
      have hne : g1 ≠ g2 := HL5.out.1
      have hne2 : g2 ≠ g1 := Ne.symm hne
      have hx := HR5.out.set 0 0
      have hy : Row (w5.setCell ⟨g1, 0, none⟩ (.int .u8 0)) g2 (blk o2) := (heap_setCell_other _ _ _ _ hne2).trans HR6.out
      have hy2 := hy.set 0 99
      have hx2 : Row ((w5.setCell ⟨g1, 0, none⟩ (.int .u8 0)).setCell ⟨g2, 0, none⟩ (.int .u8 99)) g1 ((blk o1).set 0 0) := (heap_setCell_other _ _ _ _ hne).trans hx
      have HXX := Lib.hid (And.intro hx2 (show Row ((w5.setCell ⟨g1, 0, none⟩ (.int .u8 0)).setCell ⟨g2, 0, none⟩ (.int .u8 99)) g2 ((blk o2).set 0 99) from hy2))
      have HU := Lib.hid (((ButL.set w5 g1 0 (.int .u8 0)).mono (M := [g1, g2]) (by simp)).trans ((ButL.set (w5.setCell ⟨g1, 0, none⟩ (.int .u8 0)) g2 0 (.int .u8 99)).mono (M := [g1, g2]) (by simp)))
      clear hx hy hy2 hx2
      go_upto_region 16 with (fail)
      generalize (w5.setCell ⟨g1, 0, none⟩ (.int .u8 0)).setCell ⟨g2, 0, none⟩ (.int .u8 99) = w6 at *
      have HD6 := Lib.hid (HD5.out.butL HU.out (by
        intro x hx cs t fr e
        simp only [List.mem_cons, List.not_mem_nil, or_false] at hx
        rcases hx with rfl | rfl
        · rw [show w5.heap[x]? = _ from HR5.out] at e; cases e; rfl
        · rw [show w5.heap[x]? = _ from HR6.out] at e; cases e; rfl))
      have HB6 := Lib.hid (HB5.out.trans (HU.out.below (B := w.heap.size) (by
        intro x hx
        simp only [List.mem_cons, List.not_mem_nil, or_false] at hx
        obtain ⟨a1, a2, a3, a4⟩ := HL5.out
        have a5 := HL4.out
        have a6 := HB3.out.size
        rcases hx with rfl | rfl <;> omega) HB5.out.size))
      have HP6 := Lib.hid (show ∀ k, k < wr.heap.size → k < w6.heap.size from fun k hk => by
        have a1 := HPR.out k hk
        have a2 := HL4.out.2
        have a3 := HL5.out.2.2.1
        have a4 := HU.out.size
        omega)
      clear hc1 hc2 hf1 hf2 hne hne2 HR4 HR5 HR6 HD5 HB5 HPR HL4 HL5 HU HB3
      refine (dwrite HD6.out (calm_fresh 20) HP6.out (by show (0 : Nat) < 1000000; omega) 0 (by show 0 < 20; omega) (some ⟨g1, 0, none⟩) 128 ((blk o1).set 0 0) (by rw [List.length_set]; exact length_blk _) (fun w' k => (show Row w' g1 ((blk o1).set 0 0) from k.rowV (U := 5) (vs := vals ((blk o1).set 0 0)) HXX.out.1 (by simp) rfl).has.told)).mono ?_
      rintro e w7 ⟨rfl, hd, ho⟩
      have HD7 := Lib.hid hd
      have HX7 := Lib.hid (show Row w7 g2 ((blk o2).set 0 99) from ho.rowV (U := 5) (vs := vals ((blk o2).set 0 99)) HXX.out.2 (by simp) rfl)
      have HB7 := Lib.hid (HB6.out.trans (ho.below (B := w.heap.size) (fun k hk => Nat.lt_of_lt_of_le hk (Nat.le_trans HB0.out.size HBr.out.size)) (by simp) HB6.out.size))
      have HP7 := Lib.hid (show ∀ k, k < wr.heap.size → k < w7.heap.size from fun k hk => Nat.lt_of_lt_of_le (HP6.out k hk) ho.size)
      clear hd ho HD6 HP6 HXX HB6
      go_wp2_with fail
      refine (dwrite HD7.out ((calm_fresh 20).wrote _ _) HP7.out (by show (1 : Nat) < 1000000; omega) 1 (by show 1 < 20; omega) (some ⟨g2, 0, none⟩) 128 ((blk o2).set 0 99) (by rw [List.length_set]; exact length_blk _) (fun w' k => (show Row w' g2 ((blk o2).set 0 99) from k.rowV (U := 5) (vs := vals ((blk o2).set 0 99)) HX7.out (by simp) rfl).has.told)).mono ?_
      rintro e w8 ⟨rfl, hd, ho⟩
      have HD8 := Lib.hid hd
      have HB8 := Lib.hid (HB7.out.trans (ho.below (B := w.heap.size) (fun k hk => Nat.lt_of_lt_of_le hk (Nat.le_trans HB0.out.size HBr.out.size)) (by simp) HB7.out.size))
      clear hd ho HD7 HP7 HX7 HB7
      go_wp2_with fail
      refine (open_no HD8.out rfl (n := 20) rfl (by omega) (by omega) (no_pick (by
        rw [says_wrote, if_neg (by omega), says_wrote, if_pos rfl]
        exact no_super (set_head (length_blk o1) 0) (by decide)) (by
        rw [says_wrote, if_pos rfl]
        exact no_super (set_head (length_blk o2) 99) (by decide)))).mono ?_
      rintro e w9 ⟨rfl, kz⟩
      have HB9 := Lib.hid (HB8.out.trans (kz.mono HB8.out.size))
      clear kz HD8 HB8
      go_wp2_with fail
      refine (open_nil _).mono ?_
      rintro e w10 ⟨rfl, kz⟩
      have HB10 := Lib.hid (HB9.out.trans (kz.mono HB9.out.size))
      clear kz HB9
      go_wp2_with fail
      refine (format_nil _).mono ?_
      rintro e w' ⟨rfl, rfl⟩
      go_wp2_with fail
      refine (awake_any _).mono ?_
      rintro e w11 ⟨rfl, kz⟩
      have HB11 := Lib.hid (HB10.out.trans (kz.mono HB10.out.size))
      clear kz HB10
      go_wp2_with fail
      go_ret
      exact ⟨rfl, HB11.out⟩
end Go.Proofs.YtogchamogbendaaGreat.Bs
