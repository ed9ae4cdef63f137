/- Several texts in one: SuG SuI SuH SuJ. (Written by bin/prune.py.) -/
import Derived.Laws.ResultCell
import Derived.Laws.StructEq
import Derived.WalkKit
import Derived.ProofKit
import Derived.Test.YtogchamogbendaaGreatQbn
import Derived.Test.YtogchamogbendaaGreatQbm
/- Contract: super.Decode. -/
namespace Go.Proofs.YtogchamogbendaaGreat.Su
set_option maxRecDepth 100000
open Go.RowKit Go.Shelf Go.Proofs.YtogchamogbendaaGreat.Oct Go.Proofs.YtogchamogbendaaGreat.Sf
set_option linter.unusedVariables false
attribute [local go_sem] Oper.semAt_some

instance (ps : List UInt8) : Decidable (Oct.Good ps) := by unfold Oct.Good; infer_instance
instance (ps : List UInt8) : Decidable (Holds ps) := by unfold Holds; infer_instance
/-- What Decode answers. -/
def dsup (ps : List UInt8) : Sup := if Holds ps then sIn ps else zero18
def derr (ps : List UInt8) : Int := if Holds ps then 0 else 60
theorem ok_dsup (ps : List UInt8) : Ok (dsup ps) := by unfold dsup; split; exact ok_sIn ps; exact ok_zero
theorem results_sup {fn : Func} {p u : Tmp} (h : fn.results = #[.cell p 69, .tmp u]) (tmps : Array Value) (w : World) (g : Nat) (s : Sup)
    (hp : tmps.getD p undef = .pointer (some ⟨g, 0, none⟩)) (R : RowV w g 69 (scells s)) : (results fn tmps).run Tryz.prog w = .ok (.tuple #[sval s, tmps.getD u undef]) w := by
  rw [results_cell_tmp h, hp]
  simp only [asAddr, Sem.run_pure, Result.andThen_ok]
  rw [run_loadVar_row w g _ _ _ _ _ R Tryz.underlying69 rfl (size_scells s)]
  rfl
theorem built_zero : Tryz.prog.built 69 [] = some (scells zero18).toArray := by kernel_rfl
theorem bytes_equal (a c : Option Addr) (len len' cap cap' : Nat) (xs ys : List UInt8) (hx' : xs.length = len) (hy' : ys.length = len') (w : World) (hx : Oct.Told w a xs) (hy : Oct.Told w c ys) :
    Calls Tryz.prog 178 #[.slice a len cap, .slice c len' cap'] w fun e w' => e = .returned (.bool (xs == ys)) ∧ w = w' := by
  subst hx' hy'
  have k1 := conv_told (P := Tryz.prog) hx cap 45 9 5 Tryz.underlying45 Tryz.underlying5 Tryz.underlying9
  have k2 := conv_told (P := Tryz.prog) hy cap' 45 9 5 Tryz.underlying45 Tryz.underlying5 Tryz.underlying9
  clear hx hy
  go_enter Tryz.func178, Tryz.ntmps178
  go_wp2
  go_ret
  exact ⟨rfl, rfl⟩

set_option maxRecDepth 100000 in
set_option maxHeartbeats 1000000 in
theorem decode_len (a : Option Addr) (len cap : Nat) (w : World) (h : len ≠ 128) (hm : len ≤ maxLen) :
    Calls Tryz.prog 188 #[.slice a len cap] w fun e w' => e = .returned (.tuple #[sval zero18, .int .i64 60]) ∧ Below w.heap.size w w' := by
  have HR := Lib.hid (show RowV (w.alloc (.cells #[(.int .u64 0), (.int .u32 0), (.int .u32 0), (.int .u32 0), (.int .u32 0), (.int .u32 0), (.int .u32 0), (.int .u32 0), (.int .u32 0), (.int .u32 0), (.int .u64 0), (.int .u64 0), (.int .u64 0), (.int .u64 0), (.int .u64 0), (.int .u64 0), (.int .u64 0), (.int .u64 0)] 69)) w.heap.size 69 (scells zero18) from alloc_rowV w 69 (scells zero18))
  have HB := Lib.hid ((Below.refl w.heap.size w).alloc (Nat.le_refl _) (.cells #[(.int .u64 0), (.int .u32 0), (.int .u32 0), (.int .u32 0), (.int .u32 0), (.int .u32 0), (.int .u32 0), (.int .u32 0), (.int .u32 0), (.int .u32 0), (.int .u64 0), (.int .u64 0), (.int .u64 0), (.int .u64 0), (.int .u64 0), (.int .u64 0), (.int .u64 0), (.int .u64 0)] 69))
  refine (callsIn_wide (n := 5)).1 ?_
  refine callsIn_of_wp_marks Tryz.func188 rfl trivial ?_ rfl
  simp only [Tryz.ntmps188, List.size_toArray, List.length_cons, List.length_nil, Nat.reduceAdd, Nat.reduceSub, Array.replicate_succ, Array.replicate_zero, List.push_toArray, List.append_toArray, List.nil_append, List.cons_append]
  refine wpIn_wide.2 ?_
  go_upto_region 1 with (fail)
  generalize w.alloc (.cells #[(.int .u64 0), (.int .u32 0), (.int .u32 0), (.int .u32 0), (.int .u32 0), (.int .u32 0), (.int .u32 0), (.int .u32 0), (.int .u32 0), (.int .u32 0), (.int .u64 0), (.int .u64 0), (.int .u64 0), (.int .u64 0), (.int .u64 0), (.int .u64 0), (.int .u64 0), (.int .u64 0)] 69) = w1 at *
  go_wp2_with fail
  refine (open_len a len cap w1 h hm).mono ?_
  rintro e w' ⟨rfl, rfl⟩
  have HR2 := Lib.hid (HR.out.below HR.out.lt ((Below.refl w1.heap.size w1).trans ((Below.refl w1.heap.size w1).alloc (Nat.le_refl _) (.cells #[.slice none 0 0] 45))))
  have HB2 := Lib.hid (HB.out.trans (((Below.refl w1.heap.size w1).trans ((Below.refl w1.heap.size w1).alloc (Nat.le_refl _) (.cells #[.slice none 0 0] 45))).mono HB.out.size))
  go_upto_region 3 with (fail)
  generalize w1.alloc (.cells #[.slice none 0 0] 45) = w2 at *
  go_wp2_with (first | (refine wpList_store_row rfl 69 (.tmp 2) (.tmp 21) rfl w.heap.size (scells zero18).toArray rfl rfl _ _ HR2.out (size_scells _) (by simp [length_scells]) (one_scells _) ?_) | (refine wpList_build_as rfl 69 #[] rfl (scells zero18).toArray ?_ ?_; (simp [Act.eval]); exact built_zero))
  exact ⟨_, results_sup rfl _ _ w.heap.size zero18 rfl (row_setRow_same HR2.out), rfl, HB2.out.trans (setRow_below _ (Nat.le_refl _))⟩

set_option maxRecDepth 100000 in
set_option maxHeartbeats 1000000 in
theorem decode_sum (b o cap : Nat) (ps : List UInt8) (w : World) (hb : Has w b o ps) (hlen : ps.length = 128) (hc : 128 ≤ cap) (hm : cap ≤ maxLen) (hs : ¬ Oct.Good ps) :
    Calls Tryz.prog 188 #[.slice (some ⟨b, o, none⟩) 128 cap] w fun e w' => e = .returned (.tuple #[sval zero18, .int .i64 60]) ∧ Below w.heap.size w w' := by
  have HH := Lib.hid (hb.below (has_lt' hb (by omega)) ((Below.refl w.heap.size w).alloc (Nat.le_refl _) (.cells #[(.int .u64 0), (.int .u32 0), (.int .u32 0), (.int .u32 0), (.int .u32 0), (.int .u32 0), (.int .u32 0), (.int .u32 0), (.int .u32 0), (.int .u32 0), (.int .u64 0), (.int .u64 0), (.int .u64 0), (.int .u64 0), (.int .u64 0), (.int .u64 0), (.int .u64 0), (.int .u64 0)] 69)))
  clear hb
  have HR := Lib.hid (show RowV (w.alloc (.cells #[(.int .u64 0), (.int .u32 0), (.int .u32 0), (.int .u32 0), (.int .u32 0), (.int .u32 0), (.int .u32 0), (.int .u32 0), (.int .u32 0), (.int .u32 0), (.int .u64 0), (.int .u64 0), (.int .u64 0), (.int .u64 0), (.int .u64 0), (.int .u64 0), (.int .u64 0), (.int .u64 0)] 69)) w.heap.size 69 (scells zero18) from alloc_rowV w 69 (scells zero18))
  have HB := Lib.hid ((Below.refl w.heap.size w).alloc (Nat.le_refl _) (.cells #[(.int .u64 0), (.int .u32 0), (.int .u32 0), (.int .u32 0), (.int .u32 0), (.int .u32 0), (.int .u32 0), (.int .u32 0), (.int .u32 0), (.int .u32 0), (.int .u64 0), (.int .u64 0), (.int .u64 0), (.int .u64 0), (.int .u64 0), (.int .u64 0), (.int .u64 0), (.int .u64 0)] 69))
  refine (callsIn_wide (n := 5)).1 ?_
  refine callsIn_of_wp_marks Tryz.func188 rfl trivial ?_ rfl
  simp only [Tryz.ntmps188, List.size_toArray, List.length_cons, List.length_nil, Nat.reduceAdd, Nat.reduceSub, Array.replicate_succ, Array.replicate_zero, List.push_toArray, List.append_toArray, List.nil_append, List.cons_append]
  refine wpIn_wide.2 ?_
  go_upto_region 1 with (fail)
  generalize w.alloc (.cells #[(.int .u64 0), (.int .u32 0), (.int .u32 0), (.int .u32 0), (.int .u32 0), (.int .u32 0), (.int .u32 0), (.int .u32 0), (.int .u32 0), (.int .u32 0), (.int .u64 0), (.int .u64 0), (.int .u64 0), (.int .u64 0), (.int .u64 0), (.int .u64 0), (.int .u64 0), (.int .u64 0)] 69) = w1 at *
  go_wp2_with fail
  refine (open_bad b o cap ps w1 HH.out hlen hc hm (fun e => hs e)).mono ?_
  rintro e w' ⟨rfl, S2⟩
  have HS := Lib.hid S2
  clear S2
  have HR2 := Lib.hid (HR.out.below HR.out.lt ((HS.out.below w1.heap.size).trans ((Below.refl w1.heap.size w').alloc (by rw [HS.out.heap]; exact Nat.le_refl _) (.cells #[.slice none 0 0] 45))))
  have HB2 := Lib.hid (HB.out.trans (((HS.out.below w1.heap.size).trans ((Below.refl w1.heap.size w').alloc (by rw [HS.out.heap]; exact Nat.le_refl _) (.cells #[.slice none 0 0] 45))).mono HB.out.size))
  go_upto_region 3 with (fail)
  generalize w'.alloc (.cells #[.slice none 0 0] 45) = w2 at *
  go_wp2_with (first | (refine wpList_store_row rfl 69 (.tmp 2) (.tmp 21) rfl w.heap.size (scells zero18).toArray rfl rfl _ _ HR2.out (size_scells _) (by simp [length_scells]) (one_scells _) ?_) | (refine wpList_build_as rfl 69 #[] rfl (scells zero18).toArray ?_ ?_; (simp [Act.eval]); exact built_zero))
  exact ⟨_, results_sup rfl _ _ w.heap.size zero18 rfl (row_setRow_same HR2.out), rfl, HB2.out.trans (setRow_below _ (Nat.le_refl _))⟩

set_option maxRecDepth 100000 in
set_option maxHeartbeats 2000000 in
theorem decode_good (b o cap : Nat) (ps : List UInt8) (w : World) (hb : Has w b o ps) (hlen : ps.length = 128) (hc : 128 ≤ cap) (hm : cap ≤ maxLen) (hs : Oct.Good ps) :
    Calls Tryz.prog 188 #[.slice (some ⟨b, o, none⟩) 128 cap] w fun e w' => e = .returned (.tuple #[sval (dsup ps), .int .i64 (derr ps)]) ∧ Below w.heap.size w w' := by
  have HBP := Lib.hid (hb.below (has_lt' hb (by omega)) ((Below.refl w.heap.size w).alloc (Nat.le_refl _) (.cells #[(.int .u64 0), (.int .u32 0), (.int .u32 0), (.int .u32 0), (.int .u32 0), (.int .u32 0), (.int .u32 0), (.int .u32 0), (.int .u32 0), (.int .u32 0), (.int .u64 0), (.int .u64 0), (.int .u64 0), (.int .u64 0), (.int .u64 0), (.int .u64 0), (.int .u64 0), (.int .u64 0)] 69)))
  have HL := Lib.hid hlen
  have HS := Lib.hid hs
  clear hb hs
  have HR := Lib.hid (show RowV (w.alloc (.cells #[(.int .u64 0), (.int .u32 0), (.int .u32 0), (.int .u32 0), (.int .u32 0), (.int .u32 0), (.int .u32 0), (.int .u32 0), (.int .u32 0), (.int .u32 0), (.int .u64 0), (.int .u64 0), (.int .u64 0), (.int .u64 0), (.int .u64 0), (.int .u64 0), (.int .u64 0), (.int .u64 0)] 69)) w.heap.size 69 (scells zero18) from alloc_rowV w 69 (scells zero18))
  have HB := Lib.hid ((Below.refl w.heap.size w).alloc (Nat.le_refl _) (.cells #[(.int .u64 0), (.int .u32 0), (.int .u32 0), (.int .u32 0), (.int .u32 0), (.int .u32 0), (.int .u32 0), (.int .u32 0), (.int .u32 0), (.int .u32 0), (.int .u64 0), (.int .u64 0), (.int .u64 0), (.int .u64 0), (.int .u64 0), (.int .u64 0), (.int .u64 0), (.int .u64 0)] 69))
  refine (callsIn_wide (n := 5)).1 ?_
  refine callsIn_of_wp_marks Tryz.func188 rfl trivial ?_ rfl
  simp only [Tryz.ntmps188, List.size_toArray, List.length_cons, List.length_nil, Nat.reduceAdd, Nat.reduceSub, Array.replicate_succ, Array.replicate_zero, List.push_toArray, List.append_toArray, List.nil_append, List.cons_append]
  refine wpIn_wide.2 ?_
  go_upto_region 1 with (fail)
  generalize w.alloc (.cells #[(.int .u64 0), (.int .u32 0), (.int .u32 0), (.int .u32 0), (.int .u32 0), (.int .u32 0), (.int .u32 0), (.int .u32 0), (.int .u32 0), (.int .u32 0), (.int .u64 0), (.int .u64 0), (.int .u64 0), (.int .u64 0), (.int .u64 0), (.int .u64 0), (.int .u64 0), (.int .u64 0)] 69) = w1 at *
  have HO := Lib.hid (open_good b o cap ps w1 HBP.out hlen hc hm HS.out)
  have hbl : (bodyIn ps).length = 123 := by simp [bodyIn, hlen]
  generalize (ps[0]'(by omega)) = kd at HO
  clear hlen
  go_wp2_with fail
  refine HO.out.mono ?_
  rintro e w2 ⟨g, rfl, F⟩
  have HF := Lib.hid (show Fresh w1 w2 g (bodyIn ps) 123 from F)
  clear F HO
  go_upto_region 4 with (fail)
  have R3 := alloc_rowV w2 45 [.slice (some ⟨g, 0, none⟩) 123 123]
  have b3 := (Below.refl w2.heap.size w2).alloc (Nat.le_refl _) (.cells #[.slice (some ⟨g, 0, none⟩) 123 123] 45)
  change RowV (w2.alloc (.cells #[.slice (some ⟨g, 0, none⟩) 123 123] 45)) _ _ _ at R3
  have sR3 := Lib.hid (show (w2.alloc (.cells #[.slice (some ⟨g, 0, none⟩) 123 123] 45)).heap.size = w2.heap.size + 1 by simp)
  generalize w2.alloc (.cells #[.slice (some ⟨g, 0, none⟩) 123 123] 45) = w3 at *
  have C4 : RowV (w3.alloc (.cells #[(.int .u64 0), (.int .u64 0), (.int .u64 0), (.int .u64 0), (.int .u64 0), (.int .u64 0), (.int .u64 0), (.int .u64 0), (.int .u64 0), (.int .u64 0), (.int .u64 0), (.int .u64 0), (.int .u64 0), (.int .u64 0), (.int .u64 0), (.int .u64 0), (.int .u64 0), (.int .u64 0), (.int .u64 0)] 303)) w3.heap.size 303 (cvals (told [] (rd (bodyIn ps)))) := alloc_rowV w3 303 (cvals fun _ => 0)
  have b4 := (Below.refl w3.heap.size w3).alloc (Nat.le_refl _) (.cells #[(.int .u64 0), (.int .u64 0), (.int .u64 0), (.int .u64 0), (.int .u64 0), (.int .u64 0), (.int .u64 0), (.int .u64 0), (.int .u64 0), (.int .u64 0), (.int .u64 0), (.int .u64 0), (.int .u64 0), (.int .u64 0), (.int .u64 0), (.int .u64 0), (.int .u64 0), (.int .u64 0), (.int .u64 0)] 303)
  have sR4 := Lib.hid (show (w3.alloc (.cells #[(.int .u64 0), (.int .u64 0), (.int .u64 0), (.int .u64 0), (.int .u64 0), (.int .u64 0), (.int .u64 0), (.int .u64 0), (.int .u64 0), (.int .u64 0), (.int .u64 0), (.int .u64 0), (.int .u64 0), (.int .u64 0), (.int .u64 0), (.int .u64 0), (.int .u64 0), (.int .u64 0), (.int .u64 0)] 303)).heap.size = w3.heap.size + 1 by simp)
  go_upto_region 5 with (fail)
  generalize w3.alloc (.cells #[(.int .u64 0), (.int .u64 0), (.int .u64 0), (.int .u64 0), (.int .u64 0), (.int .u64 0), (.int .u64 0), (.int .u64 0), (.int .u64 0), (.int .u64 0), (.int .u64 0), (.int .u64 0), (.int .u64 0), (.int .u64 0), (.int .u64 0), (.int .u64 0), (.int .u64 0), (.int .u64 0), (.int .u64 0)] 303) = w4 at *
  generalize hq : w3.heap.size = q at *
  generalize hr : w2.heap.size = r at *
  have hq := Lib.hid hq
  have hr := Lib.hid hr
  go_wp2_with fail
  refine (callsIn_wide.1 (numbers_any 5 q _)).mono ?_
  rintro e w' ⟨rfl, rfl⟩
  have bN := alloc_rowV w4 328 [.pointer (some ⟨q, 0, none⟩)]
  have kN := (Below.refl w4.heap.size w4).alloc (Nat.le_refl _) (.cells #[.pointer (some ⟨q, 0, none⟩)] 328)
  have sN := Lib.hid (show (w4.alloc (.cells #[.pointer (some ⟨q, 0, none⟩)] 328)).heap.size = w4.heap.size + 1 by simp)
  change RowV (w4.alloc (.cells #[.pointer (some ⟨q, 0, none⟩)] 328)) _ _ _ at bN
  go_wp2_with fail
  generalize w4.alloc (.cells #[.pointer (some ⟨q, 0, none⟩)] 328) = W0 at *
  have hq := hq.out
  have hr := hr.out
  have sR3 := sR3.out
  have sR4 := sR4.out
  have sN := sN.out
  have hw1s := HB.out.size
  have hres := HR.out.lt
  have hf1 := HF.out.below.size
  have hglo := HF.out.lo
  have hghi := HF.out.hi
  have hpl := has_lt' HBP.out (by rw [HL.out]; decide)
  have HRES := Lib.hid (((((HR.out.below hres HF.out.below).below (by omega) b3).below (by omega) b4).below (by omega) kN))
  have HGG := Lib.hid (show Has W0 g 0 (bodyIn ps) from (((HF.out.has.below (B := r) (by omega) b3).below (B := q) (by omega) b4).below (B := w4.heap.size) (by omega) kN))
  have HPG := Lib.hid (show Has W0 b o ps from (((HBP.out.below (B := w1.heap.size) hpl HF.out.below).below (B := r) (by omega) b3).below (B := q) (by omega) b4).below (B := w4.heap.size) (by omega) kN)
  have HRR := Lib.hid ((R3.below (B := q) (by omega) b4).below (B := w4.heap.size) (by omega) kN)
  have C0 := C4.below (B := w4.heap.size) (by omega) kN
  have HBW := Lib.hid (show Below w.heap.size w W0 from (((HB.out.trans (HF.out.below.mono hw1s)).trans (b3.mono (by omega))).trans (b4.mono (by omega))).trans (kN.mono (by omega)))
  have hc0 := bN.cellAt (i := 0) rfl
  have HBL := Lib.hid hbl
  clear HR HB HF HBP R3 C4 b3 b4 kN hbl bN
  have hqw : q < W0.heap.size := by omega
  have hrq : r < q := by omega
  have hgq : g < q := by omega
  have hbq : b < q := by omega
  have hwq : w.heap.size < q := by omega
  have hbn : w4.heap.size < W0.heap.size := by omega
  have hqn : q < w4.heap.size := by omega
  clear hq hr sN sR3 sR4 hf1 hglo hghi hpl hw1s hres
  generalize w4.heap.size = Bn at *
  refine (wpIn_wide (n := 5)).1 ?_
  refine wpIn_rangeFunc_ownH rfl (by decide) (gf := 220) (lb := #[.pointer (some ⟨Bn, 0, none⟩)]) rfl trivial (enters_of Tryz.func220 (by kernel_rfl) rfl)
    (numbers_stops (5 - 1) (by decide) Bn q q W0 hbn (by omega) hc0) keep_t (keep_b (by omega) hbn) (Below.refl _ _) (fun _ => rfl)
    (fun pre W => RowV W q 303 (cvals (told pre (rd (bodyIn ps)))) ∧ Below q W0 W)
    (fun _ _ _ => False)
    (OwnFrom.and (Own.from (rowV_own q _ (fun pre => cvals (told pre (rd (bodyIn ps))))) _) (ownFrom_below (by omega) (by omega)))
    (fun _ _ _ _ _ hs _ _ => hs)
    ⟨C0, Below.refl _ _⟩
    (fun x a' W => ∃ Bx, Bn < Bx ∧ RowV W Bx 309 [.int .i64 (pos x.val : Int), .int .i64 (size x.val : Int)] ∧ a' = ⟨#[.slice (some ⟨b, o, none⟩) 128 cap, undef, .pointer (some ⟨w.heap.size, 0, none⟩), .int .i64 0, .int .u8 (kd.toNat : Int), .pointer (some ⟨r, 0, none⟩), .int .i64 0, .pointer (some ⟨q, 0, none⟩), .pointer (some ⟨Bx, 0, none⟩), .pointer (some ⟨q, x.val, none⟩), undef, undef, undef, .tuple #[.int .u8 (kd.toNat : Int), .slice (some ⟨g, 0, none⟩) 123 123, .int .i64 0], .slice (some ⟨b, o, none⟩) 128 cap, .tuple #[.int .u8 (kd.toNat : Int), .slice (some ⟨g, 0, none⟩) 123 123, .int .i64 0], .int .u8 (kd.toNat : Int), .slice (some ⟨g, 0, none⟩) 123 123, .int .i64 0, .int .i64 0, .bool false, undef, .func (.func 220) #[] #[.pointer (some ⟨Bn, 0, none⟩)], .agg #[.int .i64 (pos x.val : Int), .int .i64 (size x.val : Int)], .pointer (some ⟨q, x.val, none⟩), undef, undef, undef, undef, undef, undef, undef, undef, undef, undef, undef, undef, undef, undef, undef, undef, undef, undef, undef, undef, undef, undef, undef, undef, undef, undef, undef], []⟩)
    ?hax ?assign ?body ?done ?stop
  case hax =>
    rintro x a' _ X Y row ⟨Bx, h1, h2, h3⟩ hg hr
    exact ⟨Bx, h1, rowV_own (β := Unit) Bx _ (fun _ => _) () X Y row h2 hg (fun r e => (hr r e).2), h3⟩
  case assign =>
    intro l pre x W K hI hK
    unfold encs
    gi_wp2
    obtain ⟨hqr, hB⟩ := hI
    have kA := (Below.refl W.heap.size W).alloc (Nat.le_refl _) (.cells #[.int .i64 (pos x.val : Int), .int .i64 (size x.val : Int)] 309)
    refine hK _ _ ((KeepsOthers.alloc _ _).from _) ⟨kA.mono (by have := hB.size; omega), kA.block _ (by have := hB.size; omega)⟩ ⟨hqr.below hqr.lt kA, hB.trans (kA.mono (by have := hB.size; omega))⟩ ⟨W.heap.size, by have := hB.size; omega, alloc_rowV W 309 [.int .i64 (pos x.val : Int), .int .i64 (size x.val : Int)], rfl⟩
  case body =>
    rintro l pre x a' W hl ⟨r', hr'⟩ ⟨hqr, hB⟩ ⟨Bx, hBx, bX, rfl⟩ hlt
    have x0 := bX.cellAt (i := 0) rfl
    have x1 := bX.cellAt (i := 1) rfl
    have y0 := (HRR.out.below hrq hB).cellAt (i := 0) rfl
    have z0 := hqr.cellAt (cvals_at (told pre (rd (bodyIn ps))) x.val x.isLt)
    have zf := hqr.free x.val
    have HGN := Lib.hid (show Calls Tryz.prog 176 #[.slice (some ⟨g, 0, none⟩) 123 123, .int .i64 (pos x.val : Int), .int .i64 (size x.val : Int)] W fun e w' => e = .returned (.tuple #[.int .u64 (rd (bodyIn ps) x.val : Int), .bool true]) ∧ W = w' by
      have := get_yes g 0 123 (bodyIn ps) (pos x.val) (size x.val) W (by rw [HBL.out]; decide) (HGG.out.below hgq hB) (size_range _).1 (size_range _).2 (by rw [HBL.out]; exact pos_size _ x.isLt)
      rw [HBL.out] at this
      exact this)
    have hv := rd_lt64 (bodyIn ps) x.val
    have HNX := Lib.hid (show RowV (W.setCell ⟨q, x.val, none⟩ (.int .u64 (rd (bodyIn ps) x.val : Int))) q 303 (cvals (told (pre ++ [x]) (rd (bodyIn ps)))) by
      rw [told_snoc, ← cvals_set]; exact hqr.set _ _)
    clear hqr
    gi_wp2_with (refine ⟨trivial, ?_⟩; gi_at_call 176; refine (CallsIn.inRound l (callsIn_wide.2 HGN.out)).mono ?_; rintro e w9 ⟨rfl, rfl⟩)
    refine ⟨(KeepsOthers.setCell _ _ _).from _, ⟨(Below.refl q W).setCell (p := ⟨q, x.val, none⟩) (Nat.le_refl _) _, heap_setCell_other _ _ _ _ (by show Bn ≠ q; omega)⟩, HNX.out, hB.setCell (p := ⟨q, x.val, none⟩) (Nat.le_refl _) _⟩
  case done =>
    rintro D ys W hD rfl ⟨hqr, hB⟩ hK
    rw [cvals_order] at hqr
    have hDl : D < W.heap.size := (Array.getElem?_eq_some_iff.1 hK).1
    have HKK := Lib.hid (And.intro hK hDl)
    have HRES2 := Lib.hid (HRES.out.below hwq hB)
    have HPG2 := Lib.hid (HPG.out.below hbq hB)
    have HBW2 := Lib.hid (HBW.out.trans (hB.mono (by omega)))
    have HSU := Lib.hid (super_any (rd (bodyIn ps)) q W hqr (rd_small (bodyIn ps)))
    have hres2 := HRES2.out.lt
    have hpg2 := has_lt' HPG2.out (by rw [HL.out]; decide)
    clear hqr hB hK HRES HPG HBW HRR HGG C0 hc0
    go_wp2_with fail
    refine HSU.out.mono ?_
    rintro e w5 ⟨rfl, B5⟩
    have hst := run_storeCells_new (P := Tryz.prog) w5 69 #[(.int .u64 0), (.int .u32 0), (.int .u32 0), (.int .u32 0), (.int .u32 0), (.int .u32 0), (.int .u32 0), (.int .u32 0), (.int .u32 0), (.int .u32 0), (.int .u64 0), (.int .u64 0), (.int .u64 0), (.int .u64 0), (.int .u64 0), (.int .u64 0), (.int .u64 0), (.int .u64 0)] (scells (sIn ps)).toArray (size_scells _) (by simp [length_scells]) (one_scells _)
    have hlc := length_scells (sIn ps)
    have HSI := Lib.hid (show sval (supOf (rd (bodyIn ps))) = .agg (scells (sIn ps)).toArray from rfl)
    rw [HSI.out]
    go_upto_region 10 with (fail)
    clear hst hlc
    have R6 := alloc_rowV w5 69 (scells (sIn ps))
    have b6 := (Below.refl w5.heap.size w5).alloc (Nat.le_refl _) (.cells (scells (sIn ps)).toArray 69)
    generalize w5.alloc (.cells (scells (sIn ps)).toArray 69) = w6 at *
    have B6 := B5.trans (b6.mono B5.size)
    have HR6 := Lib.hid R6
    have HK6 := Lib.hid (And.intro ((B6.block D HKK.out.2).trans HKK.out.1) B6.size)
    have HRES6 := Lib.hid (HRES2.out.below hres2 B6)
    have HPG6 := Lib.hid (HPG2.out.below hpg2 B6)
    have HBW6 := Lib.hid (HBW2.out.trans (B6.mono HBW2.out.size))
    have hDw : w.heap.size ≤ D := by omega
    have hDne : ¬ (w.heap.size = D) := by omega
    clear R6 b6 B5 B6 HRES2 HPG2 HBW2 HSU HSI
    generalize w5.heap.size = z at *
    by_cases hfit : Fit (sIn ps)
    · have HEY := Lib.hid (encode_yes (sIn ps) (ok_sIn ps) w6 hfit)
      have HFT := Lib.hid hfit
      clear hfit
      go_wp2_with (refine wpList_load_row rfl 69 (.tmp 10) rfl z rfl _ (scells (sIn ps)).toArray _ _ HR6.out Tryz.underlying69 rfl (size_scells _) ?_)
      refine HEY.out.mono ?_
      rintro e w7 ⟨g2, rfl, F7⟩
      have HF7 := Lib.hid (show Fresh w6 w7 g2 (supPage (sIn ps)) 128 from F7)
      clear F7 HEY
      have HR7 := Lib.hid (HR6.out.below HR6.out.lt HF7.out.below)
      have HRES7 := Lib.hid (HRES6.out.below HRES6.out.lt HF7.out.below)
      have HK7 := Lib.hid ((HF7.out.below.block D (by have := HKK.out.2; have := HK6.out.2; omega)).trans HK6.out.1)
      have HBW7 := Lib.hid (HBW6.out.trans (HF7.out.below.mono HBW6.out.size))
      have HEQ := Lib.hid (bytes_equal (some ⟨g2, 0, none⟩) (some ⟨b, o, none⟩) 128 128 128 cap (supPage (sIn ps)) ps (length_supPage _) HL.out w7 HF7.out.has.told (HPG6.out.below (has_lt' HPG6.out (by rw [HL.out]; decide)) HF7.out.below).told)
      clear HRES6 HR6 HPG6 HBW6
      by_cases heq : supPage (sIn ps) = ps
      · have HDS := Lib.hid (show dsup ps = sIn ps ∧ derr ps = 0 by
          have : Holds ps := ⟨HL.out, HS.out, HFT.out, heq⟩
          unfold dsup derr; rw [if_pos this, if_pos this]; exact ⟨rfl, rfl⟩)
        rw [show (supPage (sIn ps) == ps) = true from by rw [beq_iff_eq]; exact heq] at HEQ
        clear heq
        go_wp2_with fail
        refine HEQ.out.mono ?_
        rintro e w8 ⟨rfl, rfl⟩
        go_wp2_with (first | (refine wpList_store_row rfl 69 (.tmp 2) (.tmp 51) rfl w.heap.size (scells (sIn ps)).toArray rfl rfl _ _ HRES7.out (size_scells _) (by simp [length_scells]) (one_scells _) ?_) | (refine wpList_load_row rfl 69 (.tmp 10) rfl z rfl _ (scells (sIn ps)).toArray _ _ HR7.out Tryz.underlying69 rfl (size_scells _) ?_))
        refine ⟨by simp, .inl ⟨_, _, rfl, run_takeDeferred (show (World.setRow _ _ _).heap[D]? = _ from (setRow_other _ _ _ _ (fun e => hDne e.symm)).trans HK7.out), ?_⟩⟩
        have hDlt := hDne
        refine ⟨_, results_sup rfl _ _ w.heap.size (sIn ps) rfl ?_, by rw [HDS.out.1, HDS.out.2]; rfl, (HBW7.out.trans (setRow_below _ (Nat.le_refl _))).trans (belowK_b (w := w) (Nat.le_refl _) _ D _ _ hDw ((setRow_other _ _ _ _ (fun e => hDne e.symm)).trans HK7.out) rfl rfl)⟩
        exact (show RowV _ _ _ _ from RowV.block (row_setRow_same HRES7.out) (World.putObj_heap_other (fun e => hDne e)))
      · have HDS := Lib.hid (show dsup ps = zero18 ∧ derr ps = 60 by
          have : ¬ Holds ps := fun h => heq h.2.2.2
          unfold dsup derr; rw [if_neg this, if_neg this]; exact ⟨rfl, rfl⟩)
        rw [show (supPage (sIn ps) == ps) = false from by rw [beq_eq_false_iff_ne]; exact heq] at HEQ
        clear heq
        go_wp2_with fail
        refine HEQ.out.mono ?_
        rintro e w8 ⟨rfl, rfl⟩
        go_wp2_with (first | (refine wpList_store_row rfl 69 (.tmp 2) (.tmp 50) rfl w.heap.size (scells zero18).toArray rfl rfl _ _ HRES7.out (size_scells _) (by simp [length_scells]) (one_scells _) ?_) | (refine wpList_build_as rfl 69 #[] rfl (scells zero18).toArray ?_ ?_; (simp [Act.eval]); exact built_zero))
        refine ⟨by simp, .inl ⟨_, _, rfl, run_takeDeferred (show (World.setRow _ _ _).heap[D]? = _ from (setRow_other _ _ _ _ (fun e => hDne e.symm)).trans HK7.out), ?_⟩⟩
        have hDlt := hDne
        refine ⟨_, results_sup rfl _ _ w.heap.size zero18 rfl ?_, by rw [HDS.out.1, HDS.out.2]; rfl, (HBW7.out.trans (setRow_below _ (Nat.le_refl _))).trans (belowK_b (w := w) (Nat.le_refl _) _ D _ _ hDw ((setRow_other _ _ _ _ (fun e => hDne e.symm)).trans HK7.out) rfl rfl)⟩
        exact (show RowV _ _ _ _ from RowV.block (row_setRow_same HRES7.out) (World.putObj_heap_other (fun e => hDne e)))
    · have HEN := Lib.hid (encode_no (sIn ps) (ok_sIn ps) w6 hfit)
      have HDS := Lib.hid (show dsup ps = zero18 ∧ derr ps = 60 by
          have : ¬ Holds ps := fun h => hfit h.2.2.1
          unfold dsup derr; rw [if_neg this, if_neg this]; exact ⟨rfl, rfl⟩)
      clear hfit
      go_wp2_with (refine wpList_load_row rfl 69 (.tmp 10) rfl z rfl _ (scells (sIn ps)).toArray _ _ HR6.out Tryz.underlying69 rfl (size_scells _) ?_)
      refine HEN.out.mono ?_
      rintro e w7 ⟨rfl, F7⟩
      have HRES7 := Lib.hid (HRES6.out.below HRES6.out.lt F7)
      have HK7 := Lib.hid ((F7.block D (by have := HKK.out.2; have := HK6.out.2; omega)).trans HK6.out.1)
      have HBW7 := Lib.hid (HBW6.out.trans (F7.mono HBW6.out.size))
      clear F7
      go_wp2_with (first | (refine wpList_store_row rfl 69 (.tmp 2) (.tmp 50) rfl w.heap.size (scells zero18).toArray rfl rfl _ _ HRES7.out (size_scells _) (by simp [length_scells]) (one_scells _) ?_) | (refine wpList_build_as rfl 69 #[] rfl (scells zero18).toArray ?_ ?_; (simp [Act.eval]); exact built_zero))
      refine ⟨by simp, .inl ⟨_, _, rfl, run_takeDeferred (show (World.setRow _ _ _).heap[D]? = _ from (setRow_other _ _ _ _ (fun e => hDne e.symm)).trans HK7.out), ?_⟩⟩
      have hDlt := hDne
      refine ⟨_, results_sup rfl _ _ w.heap.size zero18 rfl ?_, by rw [HDS.out.1, HDS.out.2]; rfl, (HBW7.out.trans (setRow_below _ (Nat.le_refl _))).trans (belowK_b (w := w) (Nat.le_refl _) _ D _ _ hDw ((setRow_other _ _ _ _ (fun e => hDne e.symm)).trans HK7.out) rfl rfl)⟩
      exact (show RowV _ _ _ _ from RowV.block (row_setRow_same HRES7.out) (World.putObj_heap_other (fun e => hDne e)))
  case stop =>
    rintro D c pre W _ _ h _
    exact h.elim

/-- Decode of whatever bytes there are. -/
theorem decode_any (a : Option Addr) (len cap : Nat) (ps : List UInt8) (hlen : ps.length = len) (w : World) (hb : Oct.Told w a ps) (hc : len ≤ cap) (hm : cap ≤ maxLen) :
    Calls Tryz.prog 188 #[.slice a len cap] w fun e w' => e = .returned (.tuple #[sval (dsup ps), .int .i64 (derr ps)]) ∧ Below w.heap.size w w' := by
  have hno : ¬ Holds ps → dsup ps = zero18 ∧ derr ps = 60 := fun h => by unfold dsup derr; rw [if_neg h, if_neg h]; exact ⟨rfl, rfl⟩
  by_cases h : len = 128
  · subst h
    rcases hb with rfl | ⟨b, o, rfl, hb⟩
    · simp at hlen
    · by_cases hs : Oct.Good ps
      · exact decode_good b o cap ps w hb hlen hc hm hs
      · obtain ⟨e1, e2⟩ := hno fun H => hs H.2.1
        rw [e1, e2]
        exact decode_sum b o cap ps w hb hlen hc hm hs
  · obtain ⟨e1, e2⟩ := hno fun H => h (hlen ▸ H.1)
    rw [e1, e2]
    exact decode_len a len cap w h (Nat.le_trans hc hm)
end Go.Proofs.YtogchamogbendaaGreat.Su
/- Contract: super.Pick. -/
namespace Go.Proofs.YtogchamogbendaaGreat.Su
set_option maxRecDepth 100000
open Go.RowKit Go.Shelf Go.Proofs.YtogchamogbendaaGreat.Oct Go.Proofs.YtogchamogbendaaGreat.Sf
set_option linter.unusedVariables false

/-- The page counts in the slot k. -/
def Counts (k : Nat) (ps : List UInt8) : Prop := Holds ps ∧ nth (sIn ps) 0 % 2 = k
instance (k : Nat) (ps : List UInt8) : Decidable (Counts k ps) := by unfold Counts; infer_instance
/-- The later one of both counts. -/
def Later (a b : List UInt8) : Prop := Counts 1 b ∧ ¬ (Counts 0 a ∧ nth (sIn b) 0 < nth (sIn a) 0)
instance (a b : List UInt8) : Decidable (Later a b) := by unfold Later; infer_instance
def psup (a b : List UInt8) : Sup := if Later a b then sIn b else if Counts 0 a then sIn a else zero18
def pslot (a b : List UInt8) : Int := if Later a b then 1 else 0
def perr (a b : List UInt8) : Int := if Later a b then 0 else if Counts 0 a then 0 else 60
theorem ok_psup (a b : List UInt8) : Ok (psup a b) := by unfold psup; split; exact ok_sIn b; split; exact ok_sIn a; exact ok_zero
/-- The best so far, and a page more. -/
def better (k : Nat) (ps : List UInt8) (s : Sup) : Sup := if Holds ps ∧ nth (sIn ps) 0 % 2 = k ∧ nth s 0 < nth (sIn ps) 0 then sIn ps else s
theorem gen_pos {ps : List UInt8} (h : Holds ps) : 1 ≤ nth (sIn ps) 0 := h.2.2.1.1
theorem nth_zero : nth zero18 0 = 0 := rfl
theorem best_pick (a b : List UInt8) : (nth (better 1 b (better 0 a zero18)) 0 = 0 → psup a b = zero18 ∧ pslot a b = 0 ∧ perr a b = 60) ∧
    (nth (better 1 b (better 0 a zero18)) 0 ≠ 0 → psup a b = better 1 b (better 0 a zero18) ∧ pslot a b = ((nth (better 1 b (better 0 a zero18)) 0 % 2 : Nat) : Int) ∧ perr a b = 0) := by
  have e0 : better 0 a zero18 = if Counts 0 a then sIn a else zero18 := by
    unfold better
    by_cases h : Holds a
    · have := gen_pos h
      by_cases h2 : nth (sIn a) 0 % 2 = 0
      · rw [if_pos ⟨h, h2, by rw [nth_zero]; omega⟩, if_pos (show Counts 0 a from ⟨h, h2⟩)]
      · rw [if_neg (fun q => h2 q.2.1), if_neg (fun q : Counts 0 a => h2 q.2)]
    · rw [if_neg (fun q => h q.1), if_neg (fun q : Counts 0 a => h q.1)]
  rw [e0]
  by_cases ha : Counts 0 a
  · rw [if_pos ha]
    have ga := gen_pos ha.1
    have e1 : better 1 b (sIn a) = if Later a b then sIn b else sIn a := by
      unfold better
      by_cases hl : Later a b
      · rw [if_pos hl, if_pos]
        have h1 := hl.2
        have h2 := hl.1.2
        have h3 := ha.2
        refine ⟨hl.1.1, hl.1.2, ?_⟩
        have : ¬ nth (sIn b) 0 < nth (sIn a) 0 := fun q => h1 ⟨ha, q⟩
        omega
      · rw [if_neg hl, if_neg]
        rintro ⟨h1, h2, h3⟩
        exact hl ⟨⟨h1, h2⟩, fun q => by have := q.2; omega⟩
    rw [e1]
    unfold psup pslot perr
    by_cases hl : Later a b
    · rw [if_pos hl, if_pos hl, if_pos hl, if_pos hl]
      have gb := gen_pos hl.1.1
      have := hl.1.2
      exact ⟨fun h => by omega, fun _ => ⟨rfl, by rw [this]; rfl, rfl⟩⟩
    · rw [if_neg hl, if_neg hl, if_neg hl, if_neg hl, if_pos ha, if_pos ha]
      have := ha.2
      exact ⟨fun h => by omega, fun _ => ⟨rfl, by rw [this]; rfl, rfl⟩⟩
  · rw [if_neg ha]
    have e1 : better 1 b zero18 = if Later a b then sIn b else zero18 := by
      unfold better
      by_cases hl : Later a b
      · have gb := gen_pos hl.1.1
        rw [if_pos hl, if_pos ⟨hl.1.1, hl.1.2, by rw [nth_zero]; omega⟩]
      · rw [if_neg hl, if_neg]
        rintro ⟨h1, h2, h3⟩
        exact hl ⟨⟨h1, h2⟩, fun q => ha q.1⟩
    rw [e1]
    unfold psup pslot perr
    by_cases hl : Later a b
    · rw [if_pos hl, if_pos hl, if_pos hl, if_pos hl]
      have gb := gen_pos hl.1.1
      have := hl.1.2
      exact ⟨fun h => by omega, fun _ => ⟨rfl, by rw [this]; rfl, rfl⟩⟩
    · rw [if_neg hl, if_neg hl, if_neg hl, if_neg hl, if_neg ha, if_neg ha]
      exact ⟨fun _ => ⟨rfl, rfl, rfl⟩, fun h => absurd nth_zero h⟩
theorem results_sup3 {fn : Func} {p u v : Tmp} (h : fn.results = #[.cell p 69, .tmp u, .tmp v]) (tmps : Array Value) (w : World) (g : Nat) (s : Sup)
    (hp : tmps.getD p undef = .pointer (some ⟨g, 0, none⟩)) (R : RowV w g 69 (scells s)) : (results fn tmps).run Tryz.prog w = .ok (.tuple #[sval s, tmps.getD u undef, tmps.getD v undef]) w := by
  have hl := run_loadVar_row w g _ _ _ _ _ R Tryz.underlying69 rfl (size_scells s)
  simp only [results, h]
  simp only [Array.getD_eq_getD_getElem?] at hp
  simp [Result.andThen, hp, asAddr, hl, sval]
/-- The best of the first k pages. -/
def bst (a b : List UInt8) (k : Nat) : Sup := if k = 0 then zero18 else if k = 1 then better 0 a zero18 else better 1 b (better 0 a zero18)
/-- A row of bytes that came in. -/
structure Bts (w : World) (A : Option Addr) (n c : Nat) (ps : List UInt8) : Prop where
  len : ps.length = n
  told : Oct.Told w A ps
  le : n ≤ c
  cap : c ≤ maxLen
theorem told_below {w w' : World} {A : Option Addr} {ps : List UInt8} (h : Oct.Told w A ps) (k : Below w.heap.size w w') : Oct.Told w' A ps := by
  rcases h with h | ⟨b, o, rfl, h⟩
  · exact .inl h
  · by_cases h0 : 0 < ps.length
    · exact .inr ⟨b, o, rfl, h.below (has_lt' h h0) k⟩
    · exact .inl (List.eq_nil_of_length_eq_zero (by omega))
theorem Bts.below {w w' : World} {A : Option Addr} {n c : Nat} {ps : List UInt8} (h : Bts w A n c ps) (k : Below w.heap.size w w') : Bts w' A n c ps := ⟨h.len, told_below h.told k, h.le, h.cap⟩
theorem Bts.page {w : World} {g : Nat} {ps : List UInt8} (h : Has w g 0 ps) (hl : ps.length = 128) : Bts w (some ⟨g, 0, none⟩) 128 128 ps := ⟨hl, h.told, Nat.le_refl _, by decide⟩
theorem decode_bts {A : Option Addr} {n c : Nat} {ps : List UInt8} {w : World} (h : Bts w A n c ps) :
    Calls Tryz.prog 188 #[.slice A n c] w fun e w' => e = .returned (.tuple #[sval (dsup ps), .int .i64 (derr ps)]) ∧ Below w.heap.size w w' := decode_any A n c ps h.len w h.told h.le h.cap
theorem run_two (x y : Value) (k : Nat) (hk : k < 2) (w : World) : (Instr.index 221 (.agg #[x, y]) (.int .i64 (k : Int))).run Tryz.prog w = .ok (if k = 0 then x else y) w := by
  unfold Instr.index
  rcases (show k = 0 ∨ k = 1 by omega) with rfl | rfl
  · simp [go_sem]
  · simp [go_sem]

set_option maxRecDepth 100000 in
set_option maxHeartbeats 4000000 in
theorem pick_any {A B : Option Addr} {n c m d : Nat} {a b : List UInt8} {w : World} (h1 : Bts w A n c a) (h2 : Bts w B m d b) :
    Calls Tryz.prog 136 #[.slice A n c, .slice B m d] w fun e w' => e = .returned (.tuple #[sval (psup a b), .int .i64 (pslot a b), .int .i64 (perr a b)]) ∧ Below w.heap.size w w' := by
  have HR := Lib.hid (show RowV (w.alloc (.cells #[(.int .u64 0), (.int .u32 0), (.int .u32 0), (.int .u32 0), (.int .u32 0), (.int .u32 0), (.int .u32 0), (.int .u32 0), (.int .u32 0), (.int .u32 0), (.int .u64 0), (.int .u64 0), (.int .u64 0), (.int .u64 0), (.int .u64 0), (.int .u64 0), (.int .u64 0), (.int .u64 0)] 69)) w.heap.size 69 (scells zero18) from alloc_rowV w 69 (scells zero18))
  have HB := Lib.hid ((Below.refl w.heap.size w).alloc (Nat.le_refl _) (.cells #[(.int .u64 0), (.int .u32 0), (.int .u32 0), (.int .u32 0), (.int .u32 0), (.int .u32 0), (.int .u32 0), (.int .u32 0), (.int .u32 0), (.int .u32 0), (.int .u64 0), (.int .u64 0), (.int .u64 0), (.int .u64 0), (.int .u64 0), (.int .u64 0), (.int .u64 0), (.int .u64 0)] 69))
  have HP := Lib.hid (best_pick a b)
  have H1 := Lib.hid h1
  have H2 := Lib.hid h2
  have HIX := Lib.hid (run_two (.slice A n c) (.slice B m d))
  clear h1 h2
  go_enter Tryz.func136, Tryz.ntmps136
  go_upto_region 1 with (fail)
  generalize w.alloc (.cells #[(.int .u64 0), (.int .u32 0), (.int .u32 0), (.int .u32 0), (.int .u32 0), (.int .u32 0), (.int .u32 0), (.int .u32 0), (.int .u32 0), (.int .u32 0), (.int .u64 0), (.int .u64 0), (.int .u64 0), (.int .u64 0), (.int .u64 0), (.int .u64 0), (.int .u64 0), (.int .u64 0)] 69) = w1 at *
  have HR2 := Lib.hid (show RowV (w1.alloc (.cells #[(.int .u64 0), (.int .u32 0), (.int .u32 0), (.int .u32 0), (.int .u32 0), (.int .u32 0), (.int .u32 0), (.int .u32 0), (.int .u32 0), (.int .u32 0), (.int .u64 0), (.int .u64 0), (.int .u64 0), (.int .u64 0), (.int .u64 0), (.int .u64 0), (.int .u64 0), (.int .u64 0)] 69)) w1.heap.size 69 (scells zero18) from alloc_rowV w1 69 (scells zero18))
  have b2 := (Below.refl w1.heap.size w1).alloc (Nat.le_refl _) (.cells #[(.int .u64 0), (.int .u32 0), (.int .u32 0), (.int .u32 0), (.int .u32 0), (.int .u32 0), (.int .u32 0), (.int .u32 0), (.int .u32 0), (.int .u32 0), (.int .u64 0), (.int .u64 0), (.int .u64 0), (.int .u64 0), (.int .u64 0), (.int .u64 0), (.int .u64 0), (.int .u64 0)] 69)
  go_upto_region 2 with (fail)
  generalize w1.alloc (.cells #[(.int .u64 0), (.int .u32 0), (.int .u32 0), (.int .u32 0), (.int .u32 0), (.int .u32 0), (.int .u32 0), (.int .u32 0), (.int .u32 0), (.int .u32 0), (.int .u64 0), (.int .u64 0), (.int .u64 0), (.int .u64 0), (.int .u64 0), (.int .u64 0), (.int .u64 0), (.int .u64 0)] 69) = w2 at *
  have HRR := Lib.hid (HR.out.below HR.out.lt b2)
  have hpq : w.heap.size < w1.heap.size := HR.out.lt
  have HBB := Lib.hid (HB.out.trans (b2.mono (by omega)))
  clear b2 HB HR
  generalize w1.heap.size = p at *
  have HST : Hid (∀ k, k < 2 → ∃ X l e ps, Bts w X l e ps ∧ (if k = 0 then Value.slice A n c else .slice B m d) = .slice X l e ∧ bst a b (k + 1) = better k ps (bst a b k)) := Lib.hid (by
    intro k hk
    rcases (show k = 0 ∨ k = 1 by omega) with rfl | rfl
    · exact ⟨A, n, c, a, H1.out, rfl, rfl⟩
    · exact ⟨B, m, d, b, H2.out, rfl, rfl⟩)
  go_wp2_with fail
  go_loopw [15] (fun i wr => ∃ k : Nat, ∃ s : Sup, k ≤ 2 ∧ i = .int .i64 (k : Int) ∧ Hid (s = bst a b k) ∧ Hid (Ok s) ∧ Hid (RowV wr p 69 (scells s)) ∧ Hid (RowV wr w.heap.size 69 (scells zero18)) ∧ Hid (Below w.heap.size w wr)) (fun i _ => 2 - (intOf i).toNat)
  case atStart => exact ⟨0, zero18, by omega, rfl, Lib.hid rfl, Lib.hid ok_zero, HR2, HRR, HBB⟩
  case round =>
    obtain ⟨k, s, hk, rfl, HS, HO, HQ, HR, HB⟩ := hrel
    clear HR2 HRR HBB
    by_cases hlt : k < 2
    · obtain ⟨X, l, ec, ps, hb, hx, hn⟩ := HST.out k hlt
      have hix := HIX.out k hlt
      rw [hx] at hix
      have HDE := Lib.hid (decode_bts (hb.below HB.out))
      have hk0 : (0 : Int) ≤ (k : Int) := by omega
      have HN := Lib.hid (show bst a b (k + 1) = better k ps s by rw [HS.out]; exact hn)
      clear hb hx hn
      have hixw := fun w => hix w
      clear hix
      go_upto_region 5 with (fail)
      go_wp2_with fail
      refine HDE.out.mono ?_
      rintro e w3 ⟨rfl, B3⟩
      have hst := run_storeCells_new (P := Tryz.prog) w3 69 #[(.int .u64 0), (.int .u32 0), (.int .u32 0), (.int .u32 0), (.int .u32 0), (.int .u32 0), (.int .u32 0), (.int .u32 0), (.int .u32 0), (.int .u32 0), (.int .u64 0), (.int .u64 0), (.int .u64 0), (.int .u64 0), (.int .u64 0), (.int .u64 0), (.int .u64 0), (.int .u64 0)] (scells (dsup ps)).toArray (size_scells _) (by simp [length_scells]) (one_scells _)
      have hlc := length_scells (dsup ps)
      unfold sval
      go_upto_region 6 with (fail)
      clear hst hlc
      have R4 := alloc_rowV w3 69 (scells (dsup ps))
      have b4 := (Below.refl w3.heap.size w3).alloc (Nat.le_refl _) (.cells (scells (dsup ps)).toArray 69)
      generalize w3.alloc (.cells (scells (dsup ps)).toArray 69) = w4 at *
      have B4 := B3.trans (b4.mono B3.size)
      have HZ := Lib.hid R4
      have HQ4 := Lib.hid (HQ.out.below HQ.out.lt B4)
      have HR4 := Lib.hid (HR.out.below HR.out.lt B4)
      have HB4 := Lib.hid (HB.out.trans (B4.mono HB.out.size))
      have hz1 : ¬ (w3.heap.size = p) := by have := HQ.out.lt; have := B3.size; omega
      have c1 := HZ.out.cellAt (scells_at (dsup ps) 0 (by decide))
      have c2 := HQ4.out.cellAt (scells_at s 0 (by decide))
      rw [scell_wide _ _ (.inl rfl)] at c1 c2
      have hg1 := (ok_dsup ps).lt 0
      have hg2 := HO.out.lt 0
      clear R4 b4 B4 B3 HQ HR HB HDE
      generalize w3.heap.size = z at *
      by_cases hh : Holds ps
      · have hd0 : derr ps = 0 := by unfold derr; rw [if_pos hh]
        have hds : dsup ps = sIn ps := by unfold dsup; rw [if_pos hh]
        rw [hds] at c1 hg1 HZ
        have HSL := Lib.hid (slot_any (nth (sIn ps) 0) hg1 w4)
        rw [hd0, hds]
        by_cases hs : nth (sIn ps) 0 % 2 = k
        · by_cases hgt : nth s 0 < nth (sIn ps) 0
          · have HN := Lib.hid (HN.out.trans (show better k ps s = sIn ps by unfold better; rw [if_pos ⟨hh, hs, hgt⟩]))
            have hgi : (nth s 0 : Int) < (nth (sIn ps) 0 : Int) := by omega
            have hsi : ((nth (sIn ps) 0 : Nat) : Int) % 2 = (k : Int) := by omega
            clear hh hs
            go_wp2_with fail
            refine HSL.out.mono ?_
            rintro e w5 ⟨rfl, rfl⟩
            go_wp2_with (first | (refine wpList_store_row rfl 69 (.tmp 7) (.tmp 40) rfl p (scells (sIn ps)).toArray rfl rfl _ _ HQ4.out (size_scells _) (by simp [length_scells]) (one_scells _) ?_) | (refine wpList_load_row rfl 69 (.tmp 10) rfl z rfl _ (scells (sIn ps)).toArray _ _ HZ.out Tryz.underlying69 rfl (size_scells _) ?_))
            go_roundw
            case rel => exact ⟨k + 1, sIn ps, by omega, by go_num, Lib.hid HN.out.symm, Lib.hid (ok_sIn ps), Lib.hid (row_setRow_same HQ4.out), Lib.hid (row_setRow_other HR4.out _ (by omega)), Lib.hid (HB4.out.trans (setRow_below _ (by omega)))⟩
            case measure => simp [intOf]; omega
          · have HN := Lib.hid (HN.out.trans (show better k ps s = s by unfold better; rw [if_neg (fun q => hgt q.2.2)]))
            have hgi : ¬ (nth s 0 : Int) < (nth (sIn ps) 0 : Int) := by omega
            have hsi : ((nth (sIn ps) 0 : Nat) : Int) % 2 = (k : Int) := by omega
            clear hh hs
            go_wp2_with fail
            refine HSL.out.mono ?_
            rintro e w5 ⟨rfl, rfl⟩
            go_wp2_with fail
            go_roundw
            case rel => exact ⟨k + 1, s, by omega, by go_num, Lib.hid HN.out.symm, HO, HQ4, HR4, HB4⟩
            case measure => simp [intOf]; omega
        · have HN := Lib.hid (HN.out.trans (show better k ps s = s by unfold better; rw [if_neg (fun q => hs q.2.1)]))
          have hsi : ¬ ((nth (sIn ps) 0 : Nat) : Int) % 2 = (k : Int) := by omega
          clear hh
          go_wp2_with fail
          refine HSL.out.mono ?_
          rintro e w5 ⟨rfl, rfl⟩
          go_wp2_with fail
          go_roundw
          case rel => exact ⟨k + 1, s, by omega, by go_num, Lib.hid HN.out.symm, HO, HQ4, HR4, HB4⟩
          case measure => simp [intOf]; omega
      · have HN := Lib.hid (HN.out.trans (show better k ps s = s by unfold better; rw [if_neg (fun q => hh q.1)]))
        have hd0 : derr ps = 60 := by unfold derr; rw [if_neg hh]
        rw [hd0]
        clear hh
        go_wp2_with fail
        go_roundw
        case rel => exact ⟨k + 1, s, by omega, by go_num, Lib.hid HN.out.symm, HO, HQ4, HR4, HB4⟩
        case measure => simp [intOf]; omega
    · obtain rfl : k = 2 := by omega
      have HBS := Lib.hid (show s = better 1 b (better 0 a zero18) from HS.out)
      have c2 := HQ.out.cellAt (scells_at s 0 (by decide))
      rw [scell_wide _ _ (.inl rfl)] at c2
      have hg2 := HO.out.lt 0
      have hpw := HQ.out.lt
      by_cases h0 : nth s 0 = 0
      · have HX := Lib.hid (HP.out.1 (by rw [← HBS.out]; exact h0))
        have h0i : ((nth s 0 : Nat) : Int) = 0 := by omega
        rw [h0i] at c2
        clear h0 h0i
        go_wp2_with (first | (refine wpList_store_row rfl 69 (.tmp 4) (.tmp 45) rfl w.heap.size (scells zero18).toArray rfl rfl _ _ HR.out (size_scells _) (by simp [length_scells]) (one_scells _) ?_) | (refine wpList_build_as rfl 69 #[] rfl (scells zero18).toArray ?_ ?_; (simp [Act.eval]); exact built_zero))
        refine bodyPost_ret (results_sup3 rfl _ _ w.heap.size zero18 rfl (row_setRow_same HR.out)) rfl ⟨?_, HB.out.trans (setRow_below _ (Nat.le_refl _))⟩
        rw [HX.out.1, HX.out.2.1, HX.out.2.2]
        rfl
      · have HX := Lib.hid (HP.out.2 (by rw [← HBS.out]; exact h0))
        have h0i : (((nth s 0 : Nat) : Int) == 0) = false := by rw [beq_eq_false_iff_ne]; omega
        have h0j : ¬ ((nth s 0 : Nat) : Int) = 0 := by omega
        have HSL := Lib.hid (slot_any (nth s 0) hg2)
        clear h0
        have hpd := hpw
        go_wp2_with fail
        refine Inv.wp_region_inv (fun b a wy => ∃ y5 y6 y46 y47 y48 y49, a = ⟨#[.slice A n c, .slice B m d, undef, undef, .pointer (some ⟨w.heap.size, 0, none⟩), y5, y6, .pointer (some ⟨p, 0, none⟩), u8, u9, u10, u11, .slice A n c, .slice B m d, .agg #[.slice A n c, .slice B m d], .int .i64 ((2 : Nat) : Int), .bool false, u17, u18, u19, u20, u21, u22, u23, u24, u25, u26, u27, u28, u29, u30, u31, u32, u33, u34, u35, u36, u37, u38, u39, u40, u41, .pointer (some ⟨p, 0, none⟩), .int .u64 (nth s 0 : Int), .bool false, undef, y46, y47, y48, y49], []⟩ ∧ Hid ((b 0 = true → y46 = .agg (scells s).toArray) ∧ (b 1 = true → y47 = .pointer (some ⟨p, 0, none⟩)) ∧ (b 2 = true → y48 = .int .u64 (nth s 0 : Int)) ∧ (b 3 = true → y49 = .int .i64 ((nth s 0 % 2 : Nat) : Int)) ∧ (b 5 = true → y5 = .int .i64 ((nth s 0 % 2 : Nat) : Int)) ∧ (b 6 = true → y6 = .int .i64 0)) ∧ Hid (RowV wy p 69 (scells s) ∧ Below w.heap.size w wy ∧ ∃ q : Sup, RowV wy w.heap.size 69 (scells q) ∧ (b 4 = true → q = s))) (by kernel_rfl) (by kernel_rfl) ?start ?steps ?done
        case start =>
          intro b hb
          refine ⟨.int .i64 0, .int .i64 0, undef, undef, undef, undef, rfl, Lib.hid ⟨?_, ?_, ?_, ?_, ?_, ?_⟩, Lib.hid ⟨HQ.out.still ⟨rfl, rfl, rfl, rfl⟩, HB.out.trans ((show Still wr wr.drew from ⟨rfl, rfl, rfl, rfl⟩).below _), zero18, HR.out.still ⟨rfl, rfl, rfl, rfl⟩, fun e => by rw [hb _ (by decide)] at e; cases e⟩⟩
          all_goals (intro e; first | rfl | (rw [hb _ (by decide)] at e; cases e))
        case steps =>
          refine ⟨?_, ?_, ?_, ?_, ?_, ?_, ?_, trivial⟩
          · rintro b a wy hb hd ⟨y5, y6, y46, y47, y48, y49, rfl, HV, HW⟩ K hK
            obtain ⟨h0, h1, h2, h3, h5, h6⟩ := HV.out
            obtain ⟨kq, kb, q, kr, k4⟩ := HW.out
            refine if_wanted rfl (wp_load_row 69 (.tmp 7) rfl p rfl _ (scells s).toArray _ _ kq Tryz.underlying69 rfl (size_scells _) ?_)
            exact hK _ _ ⟨_, _, _, _, _, _, rfl, Lib.hid ⟨fun _ => rfl, h1, h2, h3, h5, h6⟩, HW⟩
          · rintro b a wy hb hd ⟨y5, y6, y46, y47, y48, y49, rfl, HV, HW⟩ K hK
            obtain ⟨h0, h1, h2, h3, h5, h6⟩ := HV.out
            obtain ⟨kq, kb, q, kr, k4⟩ := HW.out
            clear hd
            go_simp
            exact hK _ _ ⟨_, _, _, _, _, _, rfl, Lib.hid ⟨h0, fun _ => rfl, h2, h3, h5, h6⟩, HW⟩
          · rintro b a wy hb hd ⟨y5, y6, y46, y47, y48, y49, rfl, HV, HW⟩ K hK
            obtain ⟨h0, h1, h2, h3, h5, h6⟩ := HV.out
            obtain ⟨kq, kb, q, kr, k4⟩ := HW.out
            simp [Region.binds] at hd
            obtain rfl := h1 hd
            have hc := kq.cellAt (scells_at s 0 (by decide))
            rw [scell_wide _ _ (.inl rfl)] at hc
            clear hd
            go_simp
            exact hK _ _ ⟨_, _, _, _, _, _, rfl, Lib.hid ⟨h0, h1, fun _ => rfl, h3, h5, h6⟩, HW⟩
          · rintro b a wy hb hd ⟨y5, y6, y46, y47, y48, y49, rfl, HV, HW⟩ K hK
            obtain ⟨h0, h1, h2, h3, h5, h6⟩ := HV.out
            obtain ⟨kq, kb, q, kr, k4⟩ := HW.out
            simp [Region.binds] at hd
            obtain rfl := h2 hd
            clear hd
            go_simp
            go_at_call 168
            refine (HSL.out wy).mono ?_
            rintro e w9 ⟨rfl, rfl⟩
            try go_simp
            exact hK _ _ ⟨_, _, _, _, _, _, rfl, Lib.hid ⟨h0, h1, h2, fun _ => rfl, h5, h6⟩, HW⟩
          · rintro b a wy hb hd ⟨y5, y6, y46, y47, y48, y49, rfl, HV, HW⟩ K hK
            obtain ⟨h0, h1, h2, h3, h5, h6⟩ := HV.out
            obtain ⟨kq, kb, q, kr, k4⟩ := HW.out
            simp [Region.binds] at hd
            obtain rfl := h0 (by first | exact hd | exact hd.1)
            refine if_wanted rfl (wp_store_row 69 (.tmp 4) (.tmp 46) rfl w.heap.size (scells s).toArray rfl rfl _ _ kr (size_scells _) (by simp [length_scells]) (one_scells _) ?_)
            exact hK _ _ ⟨_, _, _, _, _, _, rfl, Lib.hid ⟨h0, h1, h2, h3, h5, h6⟩, Lib.hid ⟨row_setRow_other kq _ (by have := kr.lt; omega), kb.trans (setRow_below _ (Nat.le_refl _)), s, row_setRow_same kr, fun _ => rfl⟩⟩
          · rintro b a wy hb hd ⟨y5, y6, y46, y47, y48, y49, rfl, HV, HW⟩ K hK
            obtain ⟨h0, h1, h2, h3, h5, h6⟩ := HV.out
            obtain ⟨kq, kb, q, kr, k4⟩ := HW.out
            simp [Region.binds] at hd
            obtain rfl := h3 hd.1
            clear hd
            go_simp
            exact hK _ _ ⟨_, _, _, _, _, _, rfl, Lib.hid ⟨h0, h1, h2, h3, fun _ => rfl, h6⟩, HW⟩
          · rintro b a wy hb hd ⟨y5, y6, y46, y47, y48, y49, rfl, HV, HW⟩ K hK
            obtain ⟨h0, h1, h2, h3, h5, h6⟩ := HV.out
            obtain ⟨kq, kb, q, kr, k4⟩ := HW.out
            clear hd
            go_simp
            exact hK _ _ ⟨_, _, _, _, _, _, rfl, Lib.hid ⟨h0, h1, h2, h3, h5, fun _ => rfl⟩, HW⟩
        case done =>
          rintro b a wy hb ⟨y5, y6, y46, y47, y48, y49, rfl, HV, HW⟩
          obtain ⟨h0, h1, h2, h3, h5, h6⟩ := HV.out
          obtain ⟨kq, kb, q, kr, k4⟩ := HW.out
          obtain rfl := h5 (hb 5)
          obtain rfl := h6 (hb 6)
          obtain rfl := k4 (hb 4)
          have HKR := Lib.hid kr
          have HKB := Lib.hid kb
          clear kr kb k4 h5 h6 h0 h1 h2 h3 kq HV HW hb
          go_wp2_with fail
          refine bodyPost_ret (results_sup3 rfl _ _ w.heap.size _ rfl HKR.out) rfl ⟨?_, HKB.out⟩
          rw [HX.out.1, HX.out.2.1, HX.out.2.2, ← HBS.out]
          rfl
end Go.Proofs.YtogchamogbendaaGreat.Su
/- Two supers compared, as values. -/
namespace Go.Proofs.YtogchamogbendaaGreat.Su
set_option maxRecDepth 100000
open Go.RowKit Go.Proofs.YtogchamogbendaaGreat.Oct Go.Proofs.YtogchamogbendaaGreat.Sf
set_option linter.unusedVariables false

theorem all_range_ints : ∀ (xs ys : List Int), xs.length = ys.length → ((List.range xs.length).all fun i => xs.getD i 0 == ys.getD i 0) = (xs == ys)
  | [], [], _ => rfl
  | x :: xs, y :: ys, h => by
    have ih := all_range_ints xs ys (by simpa using h)
    rw [List.length_cons, List.range_succ_eq_map, List.all_cons, List.all_map]
    simp only [List.getD_cons_zero, Function.comp_def, List.getD_cons_succ, ih]
    simp [List.cons_beq_cons]
  | [], _ :: _, h => by simp at h
  | _ :: _, [], h => by simp at h
theorem run_equalIn_ints {P : Program} (w : World) (d : Nat) (t e : TypeId) (n : Nat) (k : IntKind) (ht : P.underlying t = some (.array n e)) (he : P.underlying e = some (.int k)) (hsz : ∀ w, (sizeOf e).run P w = .ok 1 w)
    (xs ys : List Int) (hx : xs.length = n) (hy : ys.length = n) :
    (Op.equalIn (d + 2) t (.agg (xs.map (Value.int k)).toArray) (.agg (ys.map (Value.int k)).toArray)).run P w = .ok (xs == ys) w := by
  rw [← all_range_ints xs ys (hx.trans hy.symm), hx, List.range_eq_range', Op.equalIn]
  simp only [Sem.run_bind, run_underlying ht, Result.andThen_ok, hsz, Std.Legacy.Range.forIn_eq_forIn_range', Std.Legacy.Range.size, Nat.sub_zero, Nat.add_sub_cancel, Nat.div_one]
  have hl : ∀ i ∈ List.range' 0 n 1, i < n := fun i hi => by simpa using (List.mem_range'_1.1 hi).2
  generalize List.range' 0 n 1 = l at hl ⊢
  induction l with
  | nil => simp
  | cons i l ih =>
    have hi : i < n := hl i (by simp)
    have px : (part e (xs.map (Value.int k)).toArray (i * 1)).run P w = .ok (Value.int k (xs.getD i 0)) w := by
      simp [part, isAgg, run_underlying he, List.getD, List.getElem?_eq_getElem (show i < xs.length by omega)]
    have py : (part e (ys.map (Value.int k)).toArray (i * 1)).run P w = .ok (Value.int k (ys.getD i 0)) w := by
      simp [part, isAgg, run_underlying he, List.getD, List.getElem?_eq_getElem (show i < ys.length by omega)]
    have pe : (Op.equalIn (d + 1) e (Value.int k (xs.getD i 0)) (Value.int k (ys.getD i 0))).run P w = .ok (xs.getD i 0 == ys.getD i 0) w := run_equalIn_int w d e k k _ _ he
    simp only [List.forIn_cons, Sem.run_bind, px, py, pe, Result.andThen_ok, List.all_cons]
    cases hb : (xs.getD i 0 == ys.getD i 0)
    · simp
    · simp only [Bool.not_true, Bool.false_eq_true, if_false, Sem.run_pure, Result.andThen_ok, Bool.true_and]
      exact ih fun j hj => hl j (by simp [hj])
def rints (s : Sup) : List Int := (List.range 8).map fun i => (nth s (2 + i) : Int)
def mints (s : Sup) : List Int := (List.range 8).map fun i => (nth s (10 + i) : Int)
theorem ints_nth {p : Nat} {s t : Sup} (h : ((List.range 8).map fun i => (nth s (p + i) : Int)) = (List.range 8).map fun i => (nth t (p + i) : Int)) (i : Nat) (hi : i < 8) : nth s (p + i) = nth t (p + i) := by
  have := congrArg (fun l => l[i]?) h
  simp [hi] at this
  omega
theorem sup_beq {s t : Sup} (hs : Ok s) (ht : Ok t) : (((((nth s 0 : Int) == nth t 0) && ((nth s 1 : Int) == nth t 1)) && (rints s == rints t)) && (mints s == mints t)) = (s == t) := by
  rw [Bool.eq_iff_iff]
  simp only [Bool.and_eq_true, beq_iff_eq]
  constructor
  · rintro ⟨⟨⟨h0, h1⟩, h2⟩, h3⟩
    refine sup_ext hs.len ht.len fun j hj => ?_
    by_cases e0 : j = 0
    · subst e0; omega
    · by_cases e1 : j = 1
      · subst e1; omega
      · by_cases e2 : j < 10
        · have := ints_nth h2 (j - 2) (by omega)
          rwa [show 2 + (j - 2) = j by omega] at this
        · have := ints_nth h3 (j - 10) (by omega)
          rwa [show 10 + (j - 10) = j by omega] at this
  · rintro rfl
    exact ⟨⟨⟨rfl, rfl⟩, rfl⟩, rfl⟩
theorem run_eqsup (s t : Sup) (hs : Ok s) (ht : Ok t) (w : World) : (Op.equalIn 10000 69 (.agg (scells s).toArray) (.agg (scells t).toArray)).run Tryz.prog w = .ok (s == t) w := by
  rw [run_equalIn_struct w 9999 69 _ _ (by unfold Program.fieldsOf; rw [Tryz.underlying69]) (by kernel_rfl)]
  have r1 := run_equalIn_ints (P := Tryz.prog) w 9997 67 66 8 .u32 Tryz.underlying67 Tryz.underlying66 (fun _ => by kernel_rfl) (rints s) (rints t) rfl rfl
  have r2 := run_equalIn_ints (P := Tryz.prog) w 9997 31 30 8 .u64 Tryz.underlying31 Tryz.underlying30 (fun _ => by kernel_rfl) (mints s) (mints t) rfl rfl
  have r3 := run_equalIn_int (P := Tryz.prog) w 9998 30 .u64 .u64 (nth s 0 : Int) (nth t 0 : Int) Tryz.underlying30
  have r4 := run_equalIn_int (P := Tryz.prog) w 9998 66 .u32 .u32 (nth s 1 : Int) (nth t 1 : Int) Tryz.underlying66
  have p : ∀ s : Sup, (part 30 (scells s).toArray 0).run Tryz.prog w = .ok (.int .u64 (nth s 0 : Int)) w ∧ (part 66 (scells s).toArray 1).run Tryz.prog w = .ok (.int .u32 (nth s 1 : Int)) w ∧
      (part 67 (scells s).toArray 2).run Tryz.prog w = .ok (.agg ((rints s).map (Value.int .u32)).toArray) w ∧ (part 31 (scells s).toArray 10).run Tryz.prog w = .ok (.agg ((mints s).map (Value.int .u64)).toArray) w := by
    intro s
    refine ⟨?_, ?_, ?_, ?_⟩
    all_goals kernel_rfl
  unfold Program.fieldsOf
  rw [Tryz.underlying69]
  rw [← sup_beq hs ht]
  simp only [Op.eqFields]
  obtain ⟨a1, a2, a3, a4⟩ := p s
  obtain ⟨b1, b2, b3, b4⟩ := p t
  simp only [Nat.reduceAdd] at r1 r2 r3 r4
  rw [if_pos (by decide)]
  simp only [Sem.run_bind, a1, b1, r3, Result.andThen_ok]
  cases h0 : ((nth s 0 : Int) == nth t 0) with
  | false => simp
  | true =>
    simp only [Bool.not_true, Bool.false_eq_true, if_false]
    rw [if_pos (by decide)]
    simp only [Sem.run_bind, a2, b2, r4, Result.andThen_ok]
    cases h1 : ((nth s 1 : Int) == nth t 1) with
    | false => simp
    | true =>
      simp only [Bool.not_true, Bool.false_eq_true, if_false]
      rw [if_pos (by decide)]
      simp only [Sem.run_bind, a3, b3, r1, Result.andThen_ok]
      cases h2 : (rints s == rints t) with
      | false => simp
      | true =>
        simp only [Bool.not_true, Bool.false_eq_true, if_false]
        rw [if_pos (by decide)]
        simp only [Sem.run_bind, a4, b4, r2, Result.andThen_ok]
        cases h3 : (mints s == mints t) <;> simp
theorem run_neq_sup (s t : Sup) (hs : Ok s) (ht : Ok t) (w : World) : (binOp .neq 69 (.agg (scells s).toArray) (.agg (scells t).toArray)).run Tryz.prog w = .ok (.bool (!(s == t))) w := by
  rw [run_neq_struct, run_eqsup s t hs ht]
  rfl
end Go.Proofs.YtogchamogbendaaGreat.Su
/- Contract: the verifier's Filled; the chapter's examples as supers. -/
namespace Go.Proofs.YtogchamogbendaaGreat.Su
set_option maxRecDepth 100000
open Go.RowKit Go.Shelf Go.Proofs.YtogchamogbendaaGreat.Oct Go.Proofs.YtogchamogbendaaGreat.Sf
set_option linter.unusedVariables false
def FilledPost (w : World) (c : UInt8) (e : Ending) (w' : World) : Prop := ∃ g, e = .returned (.slice (some ⟨g, 0, none⟩) 128 128) ∧ w.heap.size ≤ g ∧ Row w' g (List.replicate 128 c) ∧ Below w.heap.size w w'
def filledTo (c : UInt8) (k : Nat) : List UInt8 := List.replicate k c ++ List.replicate (128 - k) 0
/-! ### The chapter's examples -/
def sup (l : List Nat) : Sup := l ++ List.replicate (18 - l.length) 0
def two : Sup := sup [2, 16]
def three : Sup := sup [3, 16]
def far : Sup := two.set 9 16
def bare : Sup := sup [0, 16]
def small : Sup := sup [1, 15]
/-- A page of a right super counts in its own slot alone. -/
theorem counts_page {s : Sup} (h : Ok s) (hf : Fit s) (k : Nat) : Counts k (supPage s) ↔ nth s 0 % 2 = k := by
  unfold Counts
  rw [sIn_page h]
  exact ⟨fun q => q.2, fun q => ⟨holds_page h hf, q⟩⟩
theorem head_page (s : Sup) : (supPage s).head? = some 6 := rfl
theorem none_zeros (c : UInt8) (h : c ≠ 6) : ¬ Holds (List.replicate 128 c) := by
  rintro ⟨_, _, _, h4⟩
  have := congrArg List.head? h4
  rw [head_page] at this
  simp at this
  exact h this.symm
theorem pick_both {s t : Sup} (hs : Ok s) (ht : Ok t) (fs : Fit s) (ft : Fit t) (h0 : nth s 0 % 2 = 0) (h1 : nth t 0 % 2 = 1) (hlt : nth s 0 < nth t 0) :
    psup (supPage s) (supPage t) = t ∧ pslot (supPage s) (supPage t) = 1 ∧ perr (supPage s) (supPage t) = 0 := by
  have hl : Later (supPage s) (supPage t) := ⟨(counts_page ht ft 1).2 h1, fun q => by have := q.2; rw [sIn_page hs, sIn_page ht] at this; omega⟩
  unfold psup pslot perr
  rw [if_pos hl, if_pos hl, if_pos hl, sIn_page ht]
  exact ⟨rfl, rfl, rfl⟩
theorem pick_both' {s t : Sup} (hs : Ok s) (ht : Ok t) (fs : Fit s) (ft : Fit t) (h0 : nth s 0 % 2 = 0) (h1 : nth t 0 % 2 = 1) (hlt : nth t 0 < nth s 0) :
    psup (supPage s) (supPage t) = s ∧ pslot (supPage s) (supPage t) = 0 ∧ perr (supPage s) (supPage t) = 0 := by
  have hc := (counts_page hs fs 0).2 h0
  have hl : ¬ Later (supPage s) (supPage t) := fun q => q.2 ⟨hc, by rw [sIn_page hs, sIn_page ht]; exact hlt⟩
  unfold psup pslot perr
  rw [if_neg hl, if_neg hl, if_neg hl, if_pos hc, if_pos hc, sIn_page hs]
  exact ⟨rfl, rfl, rfl⟩
theorem pick_bts {A B : Option Addr} {n c m d : Nat} {a b : List UInt8} {w : World} (h1 : Bts w A n c a) (h2 : Bts w B m d b) {s : Sup} {i e : Int} (h : psup a b = s ∧ pslot a b = i ∧ perr a b = e) :
    Calls Tryz.prog 136 #[.slice A n c, .slice B m d] w fun x w' => x = .returned (.tuple #[.agg (scells s).toArray, .int .i64 i, .int .i64 e]) ∧ Below w.heap.size w w' := by
  obtain ⟨rfl, rfl, rfl⟩ := h
  exact pick_any h1 h2
theorem wp_neq_sup {o : Oper} {a : Act} {w : World} {K : Act → World → Prop} {Q : Exit → Act → World → Prop} (x y : Operand) (u : TypeId) (ho : o.op = .binOp .neq 69 x y u) (s t : Sup) (hs : Ok s) (ht : Ok t)
    (hx : a.eval x = .agg (scells s).toArray) (hy : a.eval y = .agg (scells t).toArray) (h : K (a.put o.dst (.bool (!(s == t)))) w) : o.wp Tryz.prog a w K Q := by
  have h1 := run_eqGuard_agg (P := Tryz.prog) w .neq 69 x y (scells s).toArray (scells t).toArray (by kernel_rfl)
  have h2 := run_neq_sup s t hs ht w
  unfold Oper.wp
  simp only [execOp, ho, hx, hy, Sem.run_bind, h1, h2, Result.andThen_ok, Sem.run_pure]
  exact h
end Go.Proofs.YtogchamogbendaaGreat.Su
