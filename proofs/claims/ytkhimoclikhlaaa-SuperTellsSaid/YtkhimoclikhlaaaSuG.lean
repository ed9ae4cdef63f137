/- Contract: super.Decode. -/
import Derived.Test.YtkhimoclikhlaaaSuF
import Derived.Test.YtkhimoclikhlaaaOctP
import Derived.Laws.ResultCell
namespace Go.Proofs.Ytkhimoclikhlaaa.Su
open Go.RowKit Go.Shelf Go.Proofs.Ytkhimoclikhlaaa.Oct Go.Proofs.Ytkhimoclikhlaaa.Sf
set_option linter.unusedVariables false
attribute [local go_sem] Oper.semAt_some

instance (ps : List UInt8) : Decidable (Oct.Good ps) := by unfold Oct.Good; infer_instance
instance (ps : List UInt8) : Decidable (Holds ps) := by unfold Holds; infer_instance
/-- What Decode answers. -/
def dsup (ps : List UInt8) : Sup := if Holds ps then sIn ps else zero18
def derr (ps : List UInt8) : Int := if Holds ps then 0 else 60
theorem ok_dsup (ps : List UInt8) : Ok (dsup ps) := by unfold dsup; split; exact ok_sIn ps; exact ok_zero
theorem results_sup {fn : Func} {p u : Tmp} (h : fn.results = #[.cell p 27, .tmp u]) (tmps : Array Value) (w : World) (g : Nat) (s : Sup)
    (hp : tmps.getD p undef = .pointer (some ⟨g, 0, none⟩)) (R : RowV w g 27 (scells s)) : (results fn tmps).run Try.prog w = .ok (.tuple #[sval s, tmps.getD u undef]) w := by
  rw [results_cell_tmp h, hp]
  simp only [asAddr, Sem.run_pure, Result.andThen_ok]
  rw [run_loadVar_row w g _ _ _ _ _ R Try.underlying27 rfl (size_scells s)]
  rfl
theorem built_zero : Try.prog.built 27 [] = some (scells zero18).toArray := by kernel_rfl
theorem bytes_equal (a c : Option Addr) (len len' cap cap' : Nat) (xs ys : List UInt8) (hx' : xs.length = len) (hy' : ys.length = len') (w : World) (hx : Oct.Told w a xs) (hy : Oct.Told w c ys) :
    Calls Try.prog 33 #[.slice a len cap, .slice c len' cap'] w fun e w' => e = .returned (.bool (xs == ys)) ∧ w = w' := by
  subst hx' hy'
  have k1 := conv_told (P := Try.prog) hx cap 28 9 5 Try.underlying28 Try.underlying5 Try.underlying9
  have k2 := conv_told (P := Try.prog) hy cap' 28 9 5 Try.underlying28 Try.underlying5 Try.underlying9
  clear hx hy
  go_enter Try.func33, Try.ntmps33
  go_wp2
  go_ret
  exact ⟨rfl, rfl⟩

set_option maxRecDepth 100000 in
set_option maxHeartbeats 1000000 in
theorem decode_len (a : Option Addr) (len cap : Nat) (w : World) (h : len ≠ 128) (hm : len ≤ maxLen) :
    Calls Try.prog 14 #[.slice a len cap] w fun e w' => e = .returned (.tuple #[sval zero18, .int .i64 60]) ∧ Below w.heap.size w w' := by
  have HR := Lib.hid (show RowV (w.alloc (.cells #[(.int .u64 0), (.int .u32 0), (.int .u32 0), (.int .u32 0), (.int .u32 0), (.int .u32 0), (.int .u32 0), (.int .u32 0), (.int .u32 0), (.int .u32 0), (.int .u64 0), (.int .u64 0), (.int .u64 0), (.int .u64 0), (.int .u64 0), (.int .u64 0), (.int .u64 0), (.int .u64 0)] 27)) w.heap.size 27 (scells zero18) from alloc_rowV w 27 (scells zero18))
  have HB := Lib.hid ((Below.refl w.heap.size w).alloc (Nat.le_refl _) (.cells #[(.int .u64 0), (.int .u32 0), (.int .u32 0), (.int .u32 0), (.int .u32 0), (.int .u32 0), (.int .u32 0), (.int .u32 0), (.int .u32 0), (.int .u32 0), (.int .u64 0), (.int .u64 0), (.int .u64 0), (.int .u64 0), (.int .u64 0), (.int .u64 0), (.int .u64 0), (.int .u64 0)] 27))
  refine (callsIn_wide (n := 5)).1 ?_
  refine callsIn_of_wp_marks Try.func14 rfl trivial ?_ rfl
  simp only [Try.ntmps14, List.size_toArray, List.length_cons, List.length_nil, Nat.reduceAdd, Nat.reduceSub, Array.replicate_succ, Array.replicate_zero, List.push_toArray, List.append_toArray, List.nil_append, List.cons_append]
  refine wpIn_wide.2 ?_
  go_upto_region 1 with (fail)
  generalize w.alloc (.cells #[(.int .u64 0), (.int .u32 0), (.int .u32 0), (.int .u32 0), (.int .u32 0), (.int .u32 0), (.int .u32 0), (.int .u32 0), (.int .u32 0), (.int .u32 0), (.int .u64 0), (.int .u64 0), (.int .u64 0), (.int .u64 0), (.int .u64 0), (.int .u64 0), (.int .u64 0), (.int .u64 0)] 27) = w1 at *
  go_wp2_with fail
  refine (open_len a len cap w1 h hm).mono ?_
  rintro e w' ⟨rfl, rfl⟩
  have HR2 := Lib.hid (HR.out.below HR.out.lt ((Below.refl w1.heap.size w1).trans ((Below.refl w1.heap.size w1).alloc (Nat.le_refl _) (.cells #[.slice none 0 0] 28))))
  have HB2 := Lib.hid (HB.out.trans (((Below.refl w1.heap.size w1).trans ((Below.refl w1.heap.size w1).alloc (Nat.le_refl _) (.cells #[.slice none 0 0] 28))).mono HB.out.size))
  go_upto_region 3 with (fail)
  generalize w1.alloc (.cells #[.slice none 0 0] 28) = w2 at *
  go_wp2_with (first | (refine wpList_store_row rfl 27 (.tmp 2) (.tmp 21) rfl w.heap.size (scells zero18).toArray rfl rfl _ _ HR2.out (size_scells _) (by simp [length_scells]) (one_scells _) ?_) | (refine wpList_build_as rfl 27 #[] rfl (scells zero18).toArray ?_ ?_; (simp [Act.eval]); exact built_zero))
  exact ⟨_, results_sup rfl _ _ w.heap.size zero18 rfl (row_setRow_same HR2.out), rfl, HB2.out.trans (setRow_below _ (Nat.le_refl _))⟩

set_option maxRecDepth 100000 in
set_option maxHeartbeats 1000000 in
theorem decode_sum (b o cap : Nat) (ps : List UInt8) (w : World) (hb : Has w b o ps) (hlen : ps.length = 128) (hc : 128 ≤ cap) (hm : cap ≤ maxLen) (hs : ¬ Oct.Good ps) :
    Calls Try.prog 14 #[.slice (some ⟨b, o, none⟩) 128 cap] w fun e w' => e = .returned (.tuple #[sval zero18, .int .i64 60]) ∧ Below w.heap.size w w' := by
  have HH := Lib.hid (hb.below (has_lt' hb (by omega)) ((Below.refl w.heap.size w).alloc (Nat.le_refl _) (.cells #[(.int .u64 0), (.int .u32 0), (.int .u32 0), (.int .u32 0), (.int .u32 0), (.int .u32 0), (.int .u32 0), (.int .u32 0), (.int .u32 0), (.int .u32 0), (.int .u64 0), (.int .u64 0), (.int .u64 0), (.int .u64 0), (.int .u64 0), (.int .u64 0), (.int .u64 0), (.int .u64 0)] 27)))
  clear hb
  have HR := Lib.hid (show RowV (w.alloc (.cells #[(.int .u64 0), (.int .u32 0), (.int .u32 0), (.int .u32 0), (.int .u32 0), (.int .u32 0), (.int .u32 0), (.int .u32 0), (.int .u32 0), (.int .u32 0), (.int .u64 0), (.int .u64 0), (.int .u64 0), (.int .u64 0), (.int .u64 0), (.int .u64 0), (.int .u64 0), (.int .u64 0)] 27)) w.heap.size 27 (scells zero18) from alloc_rowV w 27 (scells zero18))
  have HB := Lib.hid ((Below.refl w.heap.size w).alloc (Nat.le_refl _) (.cells #[(.int .u64 0), (.int .u32 0), (.int .u32 0), (.int .u32 0), (.int .u32 0), (.int .u32 0), (.int .u32 0), (.int .u32 0), (.int .u32 0), (.int .u32 0), (.int .u64 0), (.int .u64 0), (.int .u64 0), (.int .u64 0), (.int .u64 0), (.int .u64 0), (.int .u64 0), (.int .u64 0)] 27))
  refine (callsIn_wide (n := 5)).1 ?_
  refine callsIn_of_wp_marks Try.func14 rfl trivial ?_ rfl
  simp only [Try.ntmps14, List.size_toArray, List.length_cons, List.length_nil, Nat.reduceAdd, Nat.reduceSub, Array.replicate_succ, Array.replicate_zero, List.push_toArray, List.append_toArray, List.nil_append, List.cons_append]
  refine wpIn_wide.2 ?_
  go_upto_region 1 with (fail)
  generalize w.alloc (.cells #[(.int .u64 0), (.int .u32 0), (.int .u32 0), (.int .u32 0), (.int .u32 0), (.int .u32 0), (.int .u32 0), (.int .u32 0), (.int .u32 0), (.int .u32 0), (.int .u64 0), (.int .u64 0), (.int .u64 0), (.int .u64 0), (.int .u64 0), (.int .u64 0), (.int .u64 0), (.int .u64 0)] 27) = w1 at *
  go_wp2_with fail
  refine (open_bad b o cap ps w1 HH.out hlen hc hm (fun e => hs e)).mono ?_
  rintro e w' ⟨rfl, S2⟩
  have HS := Lib.hid S2
  clear S2
  have HR2 := Lib.hid (HR.out.below HR.out.lt ((HS.out.below w1.heap.size).trans ((Below.refl w1.heap.size w').alloc (by rw [HS.out.heap]; exact Nat.le_refl _) (.cells #[.slice none 0 0] 28))))
  have HB2 := Lib.hid (HB.out.trans (((HS.out.below w1.heap.size).trans ((Below.refl w1.heap.size w').alloc (by rw [HS.out.heap]; exact Nat.le_refl _) (.cells #[.slice none 0 0] 28))).mono HB.out.size))
  go_upto_region 3 with (fail)
  generalize w'.alloc (.cells #[.slice none 0 0] 28) = w2 at *
  go_wp2_with (first | (refine wpList_store_row rfl 27 (.tmp 2) (.tmp 21) rfl w.heap.size (scells zero18).toArray rfl rfl _ _ HR2.out (size_scells _) (by simp [length_scells]) (one_scells _) ?_) | (refine wpList_build_as rfl 27 #[] rfl (scells zero18).toArray ?_ ?_; (simp [Act.eval]); exact built_zero))
  exact ⟨_, results_sup rfl _ _ w.heap.size zero18 rfl (row_setRow_same HR2.out), rfl, HB2.out.trans (setRow_below _ (Nat.le_refl _))⟩

set_option maxRecDepth 100000 in
set_option maxHeartbeats 2000000 in
theorem decode_good (b o cap : Nat) (ps : List UInt8) (w : World) (hb : Has w b o ps) (hlen : ps.length = 128) (hc : 128 ≤ cap) (hm : cap ≤ maxLen) (hs : Oct.Good ps) :
    Calls Try.prog 14 #[.slice (some ⟨b, o, none⟩) 128 cap] w fun e w' => e = .returned (.tuple #[sval (dsup ps), .int .i64 (derr ps)]) ∧ Below w.heap.size w w' := by
  have HBP := Lib.hid (hb.below (has_lt' hb (by omega)) ((Below.refl w.heap.size w).alloc (Nat.le_refl _) (.cells #[(.int .u64 0), (.int .u32 0), (.int .u32 0), (.int .u32 0), (.int .u32 0), (.int .u32 0), (.int .u32 0), (.int .u32 0), (.int .u32 0), (.int .u32 0), (.int .u64 0), (.int .u64 0), (.int .u64 0), (.int .u64 0), (.int .u64 0), (.int .u64 0), (.int .u64 0), (.int .u64 0)] 27)))
  have HL := Lib.hid hlen
  have HS := Lib.hid hs
  clear hb hs
  have HR := Lib.hid (show RowV (w.alloc (.cells #[(.int .u64 0), (.int .u32 0), (.int .u32 0), (.int .u32 0), (.int .u32 0), (.int .u32 0), (.int .u32 0), (.int .u32 0), (.int .u32 0), (.int .u32 0), (.int .u64 0), (.int .u64 0), (.int .u64 0), (.int .u64 0), (.int .u64 0), (.int .u64 0), (.int .u64 0), (.int .u64 0)] 27)) w.heap.size 27 (scells zero18) from alloc_rowV w 27 (scells zero18))
  have HB := Lib.hid ((Below.refl w.heap.size w).alloc (Nat.le_refl _) (.cells #[(.int .u64 0), (.int .u32 0), (.int .u32 0), (.int .u32 0), (.int .u32 0), (.int .u32 0), (.int .u32 0), (.int .u32 0), (.int .u32 0), (.int .u32 0), (.int .u64 0), (.int .u64 0), (.int .u64 0), (.int .u64 0), (.int .u64 0), (.int .u64 0), (.int .u64 0), (.int .u64 0)] 27))
  refine (callsIn_wide (n := 5)).1 ?_
  refine callsIn_of_wp_marks Try.func14 rfl trivial ?_ rfl
  simp only [Try.ntmps14, List.size_toArray, List.length_cons, List.length_nil, Nat.reduceAdd, Nat.reduceSub, Array.replicate_succ, Array.replicate_zero, List.push_toArray, List.append_toArray, List.nil_append, List.cons_append]
  refine wpIn_wide.2 ?_
  go_upto_region 1 with (fail)
  generalize w.alloc (.cells #[(.int .u64 0), (.int .u32 0), (.int .u32 0), (.int .u32 0), (.int .u32 0), (.int .u32 0), (.int .u32 0), (.int .u32 0), (.int .u32 0), (.int .u32 0), (.int .u64 0), (.int .u64 0), (.int .u64 0), (.int .u64 0), (.int .u64 0), (.int .u64 0), (.int .u64 0), (.int .u64 0)] 27) = w1 at *
  have HO := Lib.hid (open_good b o cap ps w1 HBP.out hlen hc hm HS.out)
  have hbl : (bodyIn ps).length = 123 := by simp [bodyIn, hlen]
  generalize (ps[0]'(by omega)) = kd at HO
  clear hlen
  go_wp2_with fail
  refine HO.out.mono ?_
  rintro e w2 ⟨g, rfl, F⟩
  have HF := Lib.hid (show Fresh w1 w2 g (bodyIn ps) 123 from F)
  clear F HO
  go_upto_region 4 with (fail)
  have R3 := alloc_rowV w2 28 [.slice (some ⟨g, 0, none⟩) 123 123]
  have b3 := (Below.refl w2.heap.size w2).alloc (Nat.le_refl _) (.cells #[.slice (some ⟨g, 0, none⟩) 123 123] 28)
  change RowV (w2.alloc (.cells #[.slice (some ⟨g, 0, none⟩) 123 123] 28)) _ _ _ at R3
  have sR3 := Lib.hid (show (w2.alloc (.cells #[.slice (some ⟨g, 0, none⟩) 123 123] 28)).heap.size = w2.heap.size + 1 by simp)
  generalize w2.alloc (.cells #[.slice (some ⟨g, 0, none⟩) 123 123] 28) = w3 at *
  have C4 : RowV (w3.alloc (.cells #[(.int .u64 0), (.int .u64 0), (.int .u64 0), (.int .u64 0), (.int .u64 0), (.int .u64 0), (.int .u64 0), (.int .u64 0), (.int .u64 0), (.int .u64 0), (.int .u64 0), (.int .u64 0), (.int .u64 0), (.int .u64 0), (.int .u64 0), (.int .u64 0), (.int .u64 0), (.int .u64 0), (.int .u64 0)] 55)) w3.heap.size 55 (cvals (told [] (rd (bodyIn ps)))) := alloc_rowV w3 55 (cvals fun _ => 0)
  have b4 := (Below.refl w3.heap.size w3).alloc (Nat.le_refl _) (.cells #[(.int .u64 0), (.int .u64 0), (.int .u64 0), (.int .u64 0), (.int .u64 0), (.int .u64 0), (.int .u64 0), (.int .u64 0), (.int .u64 0), (.int .u64 0), (.int .u64 0), (.int .u64 0), (.int .u64 0), (.int .u64 0), (.int .u64 0), (.int .u64 0), (.int .u64 0), (.int .u64 0), (.int .u64 0)] 55)
  have sR4 := Lib.hid (show (w3.alloc (.cells #[(.int .u64 0), (.int .u64 0), (.int .u64 0), (.int .u64 0), (.int .u64 0), (.int .u64 0), (.int .u64 0), (.int .u64 0), (.int .u64 0), (.int .u64 0), (.int .u64 0), (.int .u64 0), (.int .u64 0), (.int .u64 0), (.int .u64 0), (.int .u64 0), (.int .u64 0), (.int .u64 0), (.int .u64 0)] 55)).heap.size = w3.heap.size + 1 by simp)
  go_upto_region 5 with (fail)
  generalize w3.alloc (.cells #[(.int .u64 0), (.int .u64 0), (.int .u64 0), (.int .u64 0), (.int .u64 0), (.int .u64 0), (.int .u64 0), (.int .u64 0), (.int .u64 0), (.int .u64 0), (.int .u64 0), (.int .u64 0), (.int .u64 0), (.int .u64 0), (.int .u64 0), (.int .u64 0), (.int .u64 0), (.int .u64 0), (.int .u64 0)] 55) = w4 at *
  generalize hq : w3.heap.size = q at *
  generalize hr : w2.heap.size = r at *
  have hq := Lib.hid hq
  have hr := Lib.hid hr
  go_wp2_with fail
  refine (callsIn_wide.1 (numbers_any 5 q _)).mono ?_
  rintro e w' ⟨rfl, rfl⟩
  have bN := alloc_rowV w4 75 [.pointer (some ⟨q, 0, none⟩)]
  have kN := (Below.refl w4.heap.size w4).alloc (Nat.le_refl _) (.cells #[.pointer (some ⟨q, 0, none⟩)] 75)
  have sN := Lib.hid (show (w4.alloc (.cells #[.pointer (some ⟨q, 0, none⟩)] 75)).heap.size = w4.heap.size + 1 by simp)
  change RowV (w4.alloc (.cells #[.pointer (some ⟨q, 0, none⟩)] 75)) _ _ _ at bN
  go_wp2_with fail
  generalize w4.alloc (.cells #[.pointer (some ⟨q, 0, none⟩)] 75) = W0 at *
  have hq := hq.out
  have hr := hr.out
  have sR3 := sR3.out
  have sR4 := sR4.out
  have sN := sN.out
  have hw1s := HB.out.size
  have hres := HR.out.lt
  have hf1 := HF.out.below.size
  have hglo := HF.out.lo
  have hghi := HF.out.hi
  have hpl := has_lt' HBP.out (by rw [HL.out]; decide)
  have HRES := Lib.hid (((((HR.out.below hres HF.out.below).below (by omega) b3).below (by omega) b4).below (by omega) kN))
  have HGG := Lib.hid (show Has W0 g 0 (bodyIn ps) from (((HF.out.has.below (B := r) (by omega) b3).below (B := q) (by omega) b4).below (B := w4.heap.size) (by omega) kN))
  have HPG := Lib.hid (show Has W0 b o ps from (((HBP.out.below (B := w1.heap.size) hpl HF.out.below).below (B := r) (by omega) b3).below (B := q) (by omega) b4).below (B := w4.heap.size) (by omega) kN)
  have HRR := Lib.hid ((R3.below (B := q) (by omega) b4).below (B := w4.heap.size) (by omega) kN)
  have C0 := C4.below (B := w4.heap.size) (by omega) kN
  have HBW := Lib.hid (show Below w.heap.size w W0 from (((HB.out.trans (HF.out.below.mono hw1s)).trans (b3.mono (by omega))).trans (b4.mono (by omega))).trans (kN.mono (by omega)))
  have hc0 := bN.cellAt (i := 0) rfl
  have HBL := Lib.hid hbl
  clear HR HB HF HBP R3 C4 b3 b4 kN hbl bN
  have hqw : q < W0.heap.size := by omega
  have hrq : r < q := by omega
  have hgq : g < q := by omega
  have hbq : b < q := by omega
  have hwq : w.heap.size < q := by omega
  have hbn : w4.heap.size < W0.heap.size := by omega
  have hqn : q < w4.heap.size := by omega
  clear hq hr sN sR3 sR4 hf1 hglo hghi hpl hw1s hres
  generalize w4.heap.size = Bn at *
  refine (wpIn_wide (n := 5)).1 ?_
  refine wpIn_rangeFunc_ownH rfl (by decide) (gf := 38) (lb := #[.pointer (some ⟨Bn, 0, none⟩)]) rfl trivial (enters_of Try.func38 (by kernel_rfl) rfl)
    (numbers_stops (5 - 1) (by decide) Bn q q W0 hbn (by omega) hc0) keep_t (keep_b (by omega) hbn) (Below.refl _ _) (fun _ => rfl)
    (fun pre W => RowV W q 55 (cvals (told pre (rd (bodyIn ps)))) ∧ Below q W0 W)
    (fun _ _ _ => False)
    (OwnFrom.and (Own.from (rowV_own q _ (fun pre => cvals (told pre (rd (bodyIn ps))))) _) (ownFrom_below (by omega) (by omega)))
    (fun _ _ _ _ _ hs _ _ => hs)
    ⟨C0, Below.refl _ _⟩
    (fun x a' W => ∃ Bx, Bn < Bx ∧ RowV W Bx 61 [.int .i64 (pos x.val : Int), .int .i64 (size x.val : Int)] ∧ a' = ⟨#[.slice (some ⟨b, o, none⟩) 128 cap, undef, .pointer (some ⟨w.heap.size, 0, none⟩), .int .i64 0, .int .u8 (kd.toNat : Int), .pointer (some ⟨r, 0, none⟩), .int .i64 0, .pointer (some ⟨q, 0, none⟩), .pointer (some ⟨Bx, 0, none⟩), .pointer (some ⟨q, x.val, none⟩), undef, undef, undef, .tuple #[.int .u8 (kd.toNat : Int), .slice (some ⟨g, 0, none⟩) 123 123, .int .i64 0], .slice (some ⟨b, o, none⟩) 128 cap, .tuple #[.int .u8 (kd.toNat : Int), .slice (some ⟨g, 0, none⟩) 123 123, .int .i64 0], .int .u8 (kd.toNat : Int), .slice (some ⟨g, 0, none⟩) 123 123, .int .i64 0, .int .i64 0, .bool false, undef, .func (.func 38) #[] #[.pointer (some ⟨Bn, 0, none⟩)], .agg #[.int .i64 (pos x.val : Int), .int .i64 (size x.val : Int)], .pointer (some ⟨q, x.val, none⟩), undef, undef, undef, undef, undef, undef, undef, undef, undef, undef, undef, undef, undef, undef, undef, undef, undef, undef, undef, undef, undef, undef, undef, undef, undef, undef, undef], []⟩)
    ?hax ?assign ?body ?done ?stop
  case hax =>
    rintro x a' _ X Y row ⟨Bx, h1, h2, h3⟩ hg hr
    exact ⟨Bx, h1, rowV_own (β := Unit) Bx _ (fun _ => _) () X Y row h2 hg (fun r e => (hr r e).2), h3⟩
  case assign =>
    intro l pre x W K hI hK
    unfold encs
    gi_wp2
    obtain ⟨hqr, hB⟩ := hI
    have kA := (Below.refl W.heap.size W).alloc (Nat.le_refl _) (.cells #[.int .i64 (pos x.val : Int), .int .i64 (size x.val : Int)] 61)
    refine hK _ _ ((KeepsOthers.alloc _ _).from _) ⟨kA.mono (by have := hB.size; omega), kA.block _ (by have := hB.size; omega)⟩ ⟨hqr.below hqr.lt kA, hB.trans (kA.mono (by have := hB.size; omega))⟩ ⟨W.heap.size, by have := hB.size; omega, alloc_rowV W 61 [.int .i64 (pos x.val : Int), .int .i64 (size x.val : Int)], rfl⟩
  case body =>
    rintro l pre x a' W hl ⟨r', hr'⟩ ⟨hqr, hB⟩ ⟨Bx, hBx, bX, rfl⟩ hlt
    have x0 := bX.cellAt (i := 0) rfl
    have x1 := bX.cellAt (i := 1) rfl
    have y0 := (HRR.out.below hrq hB).cellAt (i := 0) rfl
    have z0 := hqr.cellAt (cvals_at (told pre (rd (bodyIn ps))) x.val x.isLt)
    have zf := hqr.free x.val
    have HGN := Lib.hid (show Calls Try.prog 31 #[.slice (some ⟨g, 0, none⟩) 123 123, .int .i64 (pos x.val : Int), .int .i64 (size x.val : Int)] W fun e w' => e = .returned (.tuple #[.int .u64 (rd (bodyIn ps) x.val : Int), .bool true]) ∧ W = w' by
      have := get_yes g 0 123 (bodyIn ps) (pos x.val) (size x.val) W (by rw [HBL.out]; decide) (HGG.out.below hgq hB) (size_range _).1 (size_range _).2 (by rw [HBL.out]; exact pos_size _ x.isLt)
      rw [HBL.out] at this
      exact this)
    have hv := rd_lt64 (bodyIn ps) x.val
    have HNX := Lib.hid (show RowV (W.setCell ⟨q, x.val, none⟩ (.int .u64 (rd (bodyIn ps) x.val : Int))) q 55 (cvals (told (pre ++ [x]) (rd (bodyIn ps)))) by
      rw [told_snoc, ← cvals_set]; exact hqr.set _ _)
    clear hqr
    gi_wp2_with (refine ⟨trivial, ?_⟩; gi_at_call 31; refine (CallsIn.inRound l (callsIn_wide.2 HGN.out)).mono ?_; rintro e w9 ⟨rfl, rfl⟩)
    refine ⟨(KeepsOthers.setCell _ _ _).from _, ⟨(Below.refl q W).setCell (p := ⟨q, x.val, none⟩) (Nat.le_refl _) _, heap_setCell_other _ _ _ _ (by show Bn ≠ q; omega)⟩, HNX.out, hB.setCell (p := ⟨q, x.val, none⟩) (Nat.le_refl _) _⟩
  case done =>
    rintro D ys W hD rfl ⟨hqr, hB⟩ hK
    rw [cvals_order] at hqr
    have hDl : D < W.heap.size := (Array.getElem?_eq_some_iff.1 hK).1
    have HKK := Lib.hid (And.intro hK hDl)
    have HRES2 := Lib.hid (HRES.out.below hwq hB)
    have HPG2 := Lib.hid (HPG.out.below hbq hB)
    have HBW2 := Lib.hid (HBW.out.trans (hB.mono (by omega)))
    have HSU := Lib.hid (super_any (rd (bodyIn ps)) q W hqr (rd_small (bodyIn ps)))
    have hres2 := HRES2.out.lt
    have hpg2 := has_lt' HPG2.out (by rw [HL.out]; decide)
    clear hqr hB hK HRES HPG HBW HRR HGG C0 hc0
    go_wp2_with fail
    refine HSU.out.mono ?_
    rintro e w5 ⟨rfl, B5⟩
    have hst := run_storeCells_new (P := Try.prog) w5 27 #[(.int .u64 0), (.int .u32 0), (.int .u32 0), (.int .u32 0), (.int .u32 0), (.int .u32 0), (.int .u32 0), (.int .u32 0), (.int .u32 0), (.int .u32 0), (.int .u64 0), (.int .u64 0), (.int .u64 0), (.int .u64 0), (.int .u64 0), (.int .u64 0), (.int .u64 0), (.int .u64 0)] (scells (sIn ps)).toArray (size_scells _) (by simp [length_scells]) (one_scells _)
    have hlc := length_scells (sIn ps)
    have HSI := Lib.hid (show sval (supOf (rd (bodyIn ps))) = .agg (scells (sIn ps)).toArray from rfl)
    rw [HSI.out]
    go_upto_region 10 with (fail)
    clear hst hlc
    have R6 := alloc_rowV w5 27 (scells (sIn ps))
    have b6 := (Below.refl w5.heap.size w5).alloc (Nat.le_refl _) (.cells (scells (sIn ps)).toArray 27)
    generalize w5.alloc (.cells (scells (sIn ps)).toArray 27) = w6 at *
    have B6 := B5.trans (b6.mono B5.size)
    have HR6 := Lib.hid R6
    have HK6 := Lib.hid (And.intro ((B6.block D HKK.out.2).trans HKK.out.1) B6.size)
    have HRES6 := Lib.hid (HRES2.out.below hres2 B6)
    have HPG6 := Lib.hid (HPG2.out.below hpg2 B6)
    have HBW6 := Lib.hid (HBW2.out.trans (B6.mono HBW2.out.size))
    have hDw : w.heap.size ≤ D := by omega
    have hDne : ¬ (w.heap.size = D) := by omega
    clear R6 b6 B5 B6 HRES2 HPG2 HBW2 HSU HSI
    generalize w5.heap.size = z at *
    by_cases hfit : Fit (sIn ps)
    · have HEY := Lib.hid (encode_yes (sIn ps) (ok_sIn ps) w6 hfit)
      have HFT := Lib.hid hfit
      clear hfit
      go_wp2_with (refine wpList_load_row rfl 27 (.tmp 10) rfl z rfl _ (scells (sIn ps)).toArray _ _ HR6.out Try.underlying27 rfl (size_scells _) ?_)
      refine HEY.out.mono ?_
      rintro e w7 ⟨g2, rfl, F7⟩
      have HF7 := Lib.hid (show Fresh w6 w7 g2 (supPage (sIn ps)) 128 from F7)
      clear F7 HEY
      have HR7 := Lib.hid (HR6.out.below HR6.out.lt HF7.out.below)
      have HRES7 := Lib.hid (HRES6.out.below HRES6.out.lt HF7.out.below)
      have HK7 := Lib.hid ((HF7.out.below.block D (by have := HKK.out.2; have := HK6.out.2; omega)).trans HK6.out.1)
      have HBW7 := Lib.hid (HBW6.out.trans (HF7.out.below.mono HBW6.out.size))
      have HEQ := Lib.hid (bytes_equal (some ⟨g2, 0, none⟩) (some ⟨b, o, none⟩) 128 128 128 cap (supPage (sIn ps)) ps (length_supPage _) HL.out w7 HF7.out.has.told (HPG6.out.below (has_lt' HPG6.out (by rw [HL.out]; decide)) HF7.out.below).told)
      clear HRES6 HR6 HPG6 HBW6
      by_cases heq : supPage (sIn ps) = ps
      · have HDS := Lib.hid (show dsup ps = sIn ps ∧ derr ps = 0 by
          have : Holds ps := ⟨HL.out, HS.out, HFT.out, heq⟩
          unfold dsup derr; rw [if_pos this, if_pos this]; exact ⟨rfl, rfl⟩)
        rw [show (supPage (sIn ps) == ps) = true from by rw [beq_iff_eq]; exact heq] at HEQ
        clear heq
        go_wp2_with fail
        refine HEQ.out.mono ?_
        rintro e w8 ⟨rfl, rfl⟩
        go_wp2_with (first | (refine wpList_store_row rfl 27 (.tmp 2) (.tmp 51) rfl w.heap.size (scells (sIn ps)).toArray rfl rfl _ _ HRES7.out (size_scells _) (by simp [length_scells]) (one_scells _) ?_) | (refine wpList_load_row rfl 27 (.tmp 10) rfl z rfl _ (scells (sIn ps)).toArray _ _ HR7.out Try.underlying27 rfl (size_scells _) ?_))
        refine ⟨by simp, .inl ⟨_, _, rfl, run_takeDeferred (show (World.setRow _ _ _).heap[D]? = _ from (setRow_other _ _ _ _ (fun e => hDne e.symm)).trans HK7.out), ?_⟩⟩
        have hDlt := hDne
        refine ⟨_, results_sup rfl _ _ w.heap.size (sIn ps) rfl ?_, by rw [HDS.out.1, HDS.out.2]; rfl, (HBW7.out.trans (setRow_below _ (Nat.le_refl _))).trans (belowK_b (w := w) (Nat.le_refl _) _ D _ _ hDw ((setRow_other _ _ _ _ (fun e => hDne e.symm)).trans HK7.out) rfl rfl)⟩
        exact (show RowV _ _ _ _ from RowV.block (row_setRow_same HRES7.out) (World.putObj_heap_other (fun e => hDne e)))
      · have HDS := Lib.hid (show dsup ps = zero18 ∧ derr ps = 60 by
          have : ¬ Holds ps := fun h => heq h.2.2.2
          unfold dsup derr; rw [if_neg this, if_neg this]; exact ⟨rfl, rfl⟩)
        rw [show (supPage (sIn ps) == ps) = false from by rw [beq_eq_false_iff_ne]; exact heq] at HEQ
        clear heq
        go_wp2_with fail
        refine HEQ.out.mono ?_
        rintro e w8 ⟨rfl, rfl⟩
        go_wp2_with (first | (refine wpList_store_row rfl 27 (.tmp 2) (.tmp 50) rfl w.heap.size (scells zero18).toArray rfl rfl _ _ HRES7.out (size_scells _) (by simp [length_scells]) (one_scells _) ?_) | (refine wpList_build_as rfl 27 #[] rfl (scells zero18).toArray ?_ ?_; (simp [Act.eval]); exact built_zero))
        refine ⟨by simp, .inl ⟨_, _, rfl, run_takeDeferred (show (World.setRow _ _ _).heap[D]? = _ from (setRow_other _ _ _ _ (fun e => hDne e.symm)).trans HK7.out), ?_⟩⟩
        have hDlt := hDne
        refine ⟨_, results_sup rfl _ _ w.heap.size zero18 rfl ?_, by rw [HDS.out.1, HDS.out.2]; rfl, (HBW7.out.trans (setRow_below _ (Nat.le_refl _))).trans (belowK_b (w := w) (Nat.le_refl _) _ D _ _ hDw ((setRow_other _ _ _ _ (fun e => hDne e.symm)).trans HK7.out) rfl rfl)⟩
        exact (show RowV _ _ _ _ from RowV.block (row_setRow_same HRES7.out) (World.putObj_heap_other (fun e => hDne e)))
    · have HEN := Lib.hid (encode_no (sIn ps) (ok_sIn ps) w6 hfit)
      have HDS := Lib.hid (show dsup ps = zero18 ∧ derr ps = 60 by
          have : ¬ Holds ps := fun h => hfit h.2.2.1
          unfold dsup derr; rw [if_neg this, if_neg this]; exact ⟨rfl, rfl⟩)
      clear hfit
      go_wp2_with (refine wpList_load_row rfl 27 (.tmp 10) rfl z rfl _ (scells (sIn ps)).toArray _ _ HR6.out Try.underlying27 rfl (size_scells _) ?_)
      refine HEN.out.mono ?_
      rintro e w7 ⟨rfl, F7⟩
      have HRES7 := Lib.hid (HRES6.out.below HRES6.out.lt F7)
      have HK7 := Lib.hid ((F7.block D (by have := HKK.out.2; have := HK6.out.2; omega)).trans HK6.out.1)
      have HBW7 := Lib.hid (HBW6.out.trans (F7.mono HBW6.out.size))
      clear F7
      go_wp2_with (first | (refine wpList_store_row rfl 27 (.tmp 2) (.tmp 50) rfl w.heap.size (scells zero18).toArray rfl rfl _ _ HRES7.out (size_scells _) (by simp [length_scells]) (one_scells _) ?_) | (refine wpList_build_as rfl 27 #[] rfl (scells zero18).toArray ?_ ?_; (simp [Act.eval]); exact built_zero))
      refine ⟨by simp, .inl ⟨_, _, rfl, run_takeDeferred (show (World.setRow _ _ _).heap[D]? = _ from (setRow_other _ _ _ _ (fun e => hDne e.symm)).trans HK7.out), ?_⟩⟩
      have hDlt := hDne
      refine ⟨_, results_sup rfl _ _ w.heap.size zero18 rfl ?_, by rw [HDS.out.1, HDS.out.2]; rfl, (HBW7.out.trans (setRow_below _ (Nat.le_refl _))).trans (belowK_b (w := w) (Nat.le_refl _) _ D _ _ hDw ((setRow_other _ _ _ _ (fun e => hDne e.symm)).trans HK7.out) rfl rfl)⟩
      exact (show RowV _ _ _ _ from RowV.block (row_setRow_same HRES7.out) (World.putObj_heap_other (fun e => hDne e)))
  case stop =>
    rintro D c pre W _ _ h _
    exact h.elim

/-- Decode of whatever bytes there are. -/
theorem decode_any (a : Option Addr) (len cap : Nat) (ps : List UInt8) (hlen : ps.length = len) (w : World) (hb : Oct.Told w a ps) (hc : len ≤ cap) (hm : cap ≤ maxLen) :
    Calls Try.prog 14 #[.slice a len cap] w fun e w' => e = .returned (.tuple #[sval (dsup ps), .int .i64 (derr ps)]) ∧ Below w.heap.size w w' := by
  have hno : ¬ Holds ps → dsup ps = zero18 ∧ derr ps = 60 := fun h => by unfold dsup derr; rw [if_neg h, if_neg h]; exact ⟨rfl, rfl⟩
  by_cases h : len = 128
  · subst h
    rcases hb with rfl | ⟨b, o, rfl, hb⟩
    · simp at hlen
    · by_cases hs : Oct.Good ps
      · exact decode_good b o cap ps w hb hlen hc hm hs
      · obtain ⟨e1, e2⟩ := hno fun H => hs H.2.1
        rw [e1, e2]
        exact decode_sum b o cap ps w hb hlen hc hm hs
  · obtain ⟨e1, e2⟩ := hno fun H => h (hlen ▸ H.1)
    rw [e1, e2]
    exact decode_len a len cap w h (Nat.le_trans hc hm)
theorem dsup_page {s : Sup} (h : Ok s) (hf : Fit s) : dsup (supPage s) = s ∧ derr (supPage s) = 0 := by
  unfold dsup derr
  rw [if_pos (holds_page h hf), if_pos (holds_page h hf), sIn_page h]
  exact ⟨rfl, rfl⟩
theorem dsup_no {ps : List UInt8} (h : ¬ Holds ps) : dsup ps = zero18 ∧ derr ps = 60 := by
  unfold dsup derr; rw [if_neg h, if_neg h]; exact ⟨rfl, rfl⟩
end Go.Proofs.Ytkhimoclikhlaaa.Su
