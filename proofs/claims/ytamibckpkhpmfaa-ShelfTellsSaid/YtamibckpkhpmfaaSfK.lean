/- Contract: shelf.Decode of what is no page, and what a body tells. -/
import Derived.Test.YtamibckpkhpmfaaSfJ
import Derived.Laws.ResultCell
namespace Go.Proofs.Ytamibckpkhpmfaa.Sf
open Go.RowKit Go.Proofs.Ytamibckpkhpmfaa.Oct
set_option linter.unusedVariables false

/-! ### What a body tells -/
def dAt (bs : List UInt8) : UInt8 := UInt8.ofNat (num (bs.take 1))
def cAt (bs : List UInt8) : Nat := num ((bs.drop 1).take 1)
def nAt (bs : List UInt8) : UInt32 := UInt32.ofNat (num ((bs.drop 2).take 4))
def eAt (bs : List UInt8) (j : Nat) : Ent := (UInt64.ofNat (num ((bs.drop (6 + 12 * j)).take 8)), UInt32.ofNat (num ((bs.drop (14 + 12 * j)).take 4)))
def bodyIn (ps : List UInt8) : List UInt8 := (ps.drop 1).take 123
def dIn (ps : List UInt8) : UInt8 := dAt (bodyIn ps)
def nIn (ps : List UInt8) : UInt32 := nAt (bodyIn ps)
def cIn (ps : List UInt8) : Nat := cAt (bodyIn ps)
def eIn (ps : List UInt8) : List Ent := (List.range (cIn ps)).map (eAt (bodyIn ps))
def Holds (ps : List UInt8) : Prop := ps.length = 128 ∧ Oct.Good ps ∧ cIn ps ≤ 9 ∧ Fit (dIn ps) (nIn ps) (eIn ps) ∧ shelfPage (dIn ps) (nIn ps) (eIn ps) = ps
theorem length_eIn (ps : List UInt8) : (eIn ps).length = cIn ps := by simp [eIn]

structure DecYes (w : World) (ps : List UInt8) (e : Ending) (w' : World) (g : Nat) : Prop where
  e : e = .returned (.tuple #[.agg #[.int .u8 ((dIn ps).toNat : Int), .int .u32 ((nIn ps).toNat : Int), .slice (some ⟨g, 0, none⟩) (cIn ps) (cIn ps)], .int .i64 0])
  es : RowV w' g 40 (evals (eIn ps))
  lo : w.heap.size ≤ g
  below : Below w.heap.size w w'
def zeroShelf : Value := .agg #[.int .u8 0, .int .u32 0, .slice none 0 0]
def DecNo (w : World) (e : Ending) (w' : World) : Prop := e = .returned (.tuple #[.agg #[.int .u8 0, .int .u32 0, .slice none 0 0], .int .i64 40]) ∧ Below w.heap.size w w'

theorem bytes_equal (a c : Option Addr) (len len' cap cap' : Nat) (xs ys : List UInt8) (hx' : xs.length = len) (hy' : ys.length = len') (w : World) (hx : Oct.Told w a xs) (hy : Oct.Told w c ys) :
    Calls Try.prog 27 #[.slice a len cap, .slice c len' cap'] w fun e w' => e = .returned (.bool (xs == ys)) ∧ w = w' := by
  subst hx' hy'
  have k1 := conv_told (P := Try.prog) hx cap 26 9 5 Try.underlying26 Try.underlying5 Try.underlying9
  have k2 := conv_told (P := Try.prog) hy cap' 26 9 5 Try.underlying26 Try.underlying5 Try.underlying9
  clear hx hy
  go_enter Try.func27, Try.ntmps27
  go_wp2
  go_ret
  exact ⟨rfl, rfl⟩

theorem has_lt {w : World} {b o : Nat} {bs : List UInt8} (h : Has w b o bs) (h0 : 0 < bs.length) : b < w.heap.size := World.block_lt_of_cell? w _ (h 0 h0)
def res0 : List Value := [.int .u8 0, .int .u32 0, .slice none 0 0]
theorem res_new (w : World) : RowV (w.alloc (.cells #[.int .u8 0, .int .u32 0, .slice none 0 0] 25)) w.heap.size 25 res0 := alloc_rowV w _ res0
/-- A refused page: what Decode's end writes over its result. -/
theorem dec_no {w0 w : World} (h : Below w0.heap.size w0 w) : Below w0.heap.size w0 (((w.setCell ⟨w0.heap.size, 0, none⟩ (.int .u8 0)).setCell ⟨w0.heap.size, 1, none⟩ (.int .u32 0)).setCell ⟨w0.heap.size, 2, none⟩ (.slice none 0 0)) :=
  ((h.setCell (p := ⟨w0.heap.size, 0, none⟩) (Nat.le_refl _) _).setCell (p := ⟨w0.heap.size, 1, none⟩) (Nat.le_refl _) _).setCell (p := ⟨w0.heap.size, 2, none⟩) (Nat.le_refl _) _

set_option maxRecDepth 100000 in
set_option maxHeartbeats 1000000 in
theorem decode_len (a : Option Addr) (len cap : Nat) (w : World) (h : len ≠ 128) (hm : len ≤ maxLen) :
    Calls Try.prog 12 #[.slice a len cap] w (DecNo w) := by
  have BB := Lib.hid ((Below.refl w.heap.size w).alloc (Nat.le_refl _) (.cells #[.int .u8 0, .int .u32 0, .slice none 0 0] 25))
  go_enter Try.func12, Try.ntmps12
  go_wp2_with fail
  refine (open_len a len cap _ h hm).mono ?_
  rintro e w2 ⟨rfl, rfl⟩
  go_wp2_with fail
  refine bodyPost_ret (v := .tuple #[.agg #[.int .u8 0, .int .u32 0, .slice none 0 0], .int .i64 40]) ?_ rfl ⟨rfl, BB.out⟩
  rw [results_cell_tmp rfl]
  go_simp

set_option maxRecDepth 100000 in
set_option maxHeartbeats 1000000 in
theorem decode_sum (b o cap : Nat) (ps : List UInt8) (w : World) (hb : Has w b o ps) (hlen : ps.length = 128) (hc : 128 ≤ cap) (hm : cap ≤ maxLen) (hs : ¬ Oct.Good ps) :
    Calls Try.prog 12 #[.slice (some ⟨b, o, none⟩) 128 cap] w (DecNo w) := by
  have b1 := (Below.refl w.heap.size w).alloc (Nat.le_refl _) (.cells #[.int .u8 0, .int .u32 0, .slice none 0 0] 25)
  have HB := Lib.hid (hb.below (has_lt hb (by omega)) b1)
  have BB := Lib.hid b1
  have RS := Lib.hid (res_new w)
  have HL := Lib.hid hlen
  have HS := Lib.hid hs
  clear hb hlen b1 hs
  go_enter Try.func12, Try.ntmps12
  go_wp2_with fail
  generalize w.alloc (.cells #[.int .u8 0, .int .u32 0, .slice none 0 0] 25) = w1 at *
  refine (open_bad b o cap ps _ HB.out HL.out hc hm (fun e => HS.out e)).mono ?_
  rintro e w2 ⟨rfl, S2⟩
  have R2 := RS.out.still S2
  have c0 := R2.cellAt (i := 0) rfl
  have c1 := R2.cellAt (i := 1) rfl
  have c2 := R2.cellAt (i := 2) rfl
  have f0 := R2.free 0
  have f1 := R2.free 1
  have f2 := R2.free 2
  have B2 := Lib.hid (BB.out.trans (S2.below _))
  clear S2 R2 RS HB
  go_wp2_with fail
  refine bodyPost_ret (v := .tuple #[.agg #[.int .u8 0, .int .u32 0, .slice none 0 0], .int .i64 40]) ?_ rfl ⟨rfl, dec_no B2.out⟩
  rw [results_cell_tmp rfl]
  go_simp
end Go.Proofs.Ytamibckpkhpmfaa.Sf
