/- The reference of shelf: Decode. -/
import Derived.Test.YtamibckpkhpmfaaSrC
import Derived.Test.YtamibckpkhpmfaaSfM
import Derived.Test.YtamibckpkhpmfaaSfS
import Derived.Deep.RegionHeld3
namespace Go.Proofs.Ytamibckpkhpmfaa.Sf
open Go.RowKit Go.Proofs.Ytamibckpkhpmfaa.Oct
set_option linter.unusedVariables false

structure RYes (w : World) (ps : List UInt8) (e : Ending) (w' : World) (A : Option Addr) (n c : Nat) : Prop where
  e : e = .returned (.tuple #[.agg #[.int .u8 ((dIn ps).toNat : Int), .int .u32 ((nIn ps).toNat : Int), .slice A n c], .int .i64 0])
  sh : Sh w' A n c (eIn ps)
  below : Below w.heap.size w w'
theorem num_one (x : UInt8) : num [x] = x.toNat := by simp [num]
theorem dAt_get (bs : List UInt8) (h : bs.length = 123) : ∃ x, bs[0]? = some x ∧ dAt bs = x := by
  refine ⟨bs[0]'(by omega), List.getElem?_eq_getElem _, ?_⟩
  unfold dAt
  have e : bs.take 1 = [bs[0]'(by omega)] := by
    rw [List.take_succ_eq_append_getElem (by omega), List.take_zero, List.nil_append]
  rw [e, num_one]
  simp
theorem cAt_get (bs : List UInt8) (h : bs.length = 123) : ∃ x, bs[1]? = some x ∧ cAt bs = x.toNat := by
  refine ⟨bs[1]'(by omega), List.getElem?_eq_getElem _, ?_⟩
  unfold cAt
  have e : (bs.drop 1).take 1 = [bs[1]'(by omega)] := by
    rw [List.take_succ_eq_append_getElem (by simp; omega), List.take_zero, List.nil_append]
    simp
  rw [e, num_one]
theorem head_holds {ps : List UInt8} (h : Holds ps) (hl : 0 < ps.length) : ps[0]'hl = 3 := by
  have e := h.2.2.2.2
  have h0 : (shelfPage (dIn ps) (nIn ps) (eIn ps))[0]? = some 3 := rfl
  rw [e, List.getElem?_eq_getElem hl] at h0
  exact Option.some.inj h0
theorem has_at' {w : World} {g i : Nat} {bs : List UInt8} {c : UInt8} (h : Has w g 0 bs) (hc : bs[i]? = some c) : w.cell? ⟨g, i, none⟩ = some (.int .u8 (c.toNat : Int)) := by
  obtain ⟨hi, e⟩ := List.getElem?_eq_some_iff.1 hc
  have := h i hi
  rw [Nat.zero_add, e] at this
  exact this
theorem number_o {w : World} {g : Nat} {bs : List UInt8} (h : Has w g 0 bs) (hl : bs.length = 123) (o s c : Nat) (hs : o + s ≤ 123) (h8 : s ≤ 8) :
    Calls Try.prog 29 #[.slice (some ⟨g, o, none⟩) s c] w fun e w' => e = .returned (.int .u64 (num ((bs.drop o).take s))) ∧ w = w' := by
  have h2 := h.cut o s
  rw [Nat.zero_add] at h2
  exact number_any g o s c _ (by simp; omega) w h8 h2

/-- What the reference's Decode has laid. -/
structure Re (w0 w : World) (g sb base : Nat) (bs : List UInt8) (d : UInt8) (nx : UInt32) (A : Option Addr) (n c : Nat) (es : List Ent) : Prop where
  below : Below w0.heap.size w0 w
  res : RowV w w0.heap.size 25 res0
  has : Has w g 0 bs
  len : bs.length = 123
  o1 : w0.heap.size < g
  o2 : g < sb
  o3 : sb < base
  o4 : base ≤ w.heap.size
  box : RowV w sb 25 [.int .u8 (d.toNat : Int), .int .u32 (nx.toNat : Int), .slice A n c]
  own : OwnE w base (.slice A n c) es
  el : es.length = n
theorem Re.above {w0 w w' : World} {g sb base n c : Nat} {bs : List UInt8} {d : UInt8} {nx : UInt32} {A : Option Addr} {es : List Ent} (h : Re w0 w g sb base bs d nx A n c es) (k : Below base w w') {A' : Option Addr} {n' c' : Nat} {es' : List Ent} (ho : OwnE w' base (.slice A' n' c') es') (hl : es'.length = n') :
    Re w0 (w'.setCell ⟨sb, 2, none⟩ (.slice A' n' c')) g sb base bs d nx A' n' c' es' := by
  have o1 := h.o1
  have o2 := h.o2
  have o3 := h.o3
  refine ⟨(h.below.trans (k.mono (by omega))).setCell (p := ⟨sb, 2, none⟩) (by show w0.heap.size ≤ sb; omega) _, (h.res.below (by omega) k).other (by omega), ?_, h.len, o1, o2, o3, by have := k.size; have := h.o4; simp; omega, (h.box.below o3 k).set 2 _, ?_, hl⟩
  · intro i hi
    have hne : (⟨sb, 2, none⟩ : Addr) ≠ ⟨g, 0 + i, none⟩ := fun e => by have := (Addr.mk.inj e).1; omega
    rw [World.cell?_setCell_other _ _ _ _ hne]
    exact (k.cell (p := ⟨g, 0 + i, none⟩) (show g < base by omega)).trans (h.has i hi)
  · refine ⟨ho.1, ?_⟩
    rcases ho.2 with hn | ⟨q, cap, cur, e, hb, hq, rest⟩
    · exact .inl hn
    · exact .inr ⟨q, cap, cur, e, hb, (heap_setCell_other _ _ _ _ (show q ≠ sb by omega)).trans hq, rest⟩
theorem Re.grow {w0 w w' : World} {g sb base n c : Nat} {bs : List UInt8} {d : UInt8} {nx : UInt32} {A : Option Addr} {es : List Ent} (h : Re w0 w g sb base bs d nx A n c es) (k : Below w.heap.size w w') : Re w0 w' g sb base bs d nx A n c es :=
  ⟨h.below.trans (k.mono h.below.size), h.res.below h.res.lt k, h.has.below (by have := h.o2; have := h.o3; have := h.o4; omega) k, h.len, h.o1, h.o2, h.o3, Nat.le_trans h.o4 k.size, h.box.below h.box.lt k, h.own.kept k (Nat.le_refl _), h.el⟩
theorem Re.sh {w0 w : World} {g sb base n c : Nat} {bs : List UInt8} {d : UInt8} {nx : UInt32} {A : Option Addr} {es : List Ent} (h : Re w0 w g sb base bs d nx A n c es) : Sh w A n c es := by
  obtain ⟨A', c', e, hs⟩ := h.own.slice
  cases e
  exact hs

set_option maxRecDepth 100000 in
set_option maxHeartbeats 1000000 in
theorem rdecode_len (a : Option Addr) (len cap : Nat) (w : World) (h : len ≠ 128) (hm : len ≤ maxLen) :
    Calls Try.prog 13 #[.slice a len cap] w (DecNo w) := by
  have BB := Lib.hid ((Below.refl w.heap.size w).alloc (Nat.le_refl _) (.cells #[.int .u8 0, .int .u32 0, .slice none 0 0] 25))
  have RS := Lib.hid (res_new w)
  go_enter Try.func13, Try.ntmps13
  go_wp2_with fail
  generalize w.alloc (.cells #[.int .u8 0, .int .u32 0, .slice none 0 0] 25) = w1 at *
  refine (ropen_len a len cap _ h hm).mono ?_
  rintro e w2 ⟨rfl, S2⟩
  have R2 := RS.out.still S2
  have c0 := R2.cellAt (i := 0) rfl
  have c1 := R2.cellAt (i := 1) rfl
  have c2 := R2.cellAt (i := 2) rfl
  have f0 := R2.free 0
  have f1 := R2.free 1
  have f2 := R2.free 2
  have B2 := Lib.hid (BB.out.trans (S2.below _))
  clear S2 R2 RS BB
  go_wp2_with fail
  refine bodyPost_ret (v := .tuple #[.agg #[.int .u8 0, .int .u32 0, .slice none 0 0], .int .i64 40]) ?_ rfl ⟨rfl, dec_no B2.out⟩
  rw [results_cell_tmp rfl]
  go_simp
set_option maxRecDepth 100000 in
set_option maxHeartbeats 1000000 in
theorem rdecode_sum (b o cap : Nat) (ps : List UInt8) (w : World) (hb : Has w b o ps) (hlen : ps.length = 128) (hc : 128 ≤ cap) (hm : cap ≤ maxLen) (hs : ¬ Oct.Good ps) :
    Calls Try.prog 13 #[.slice (some ⟨b, o, none⟩) 128 cap] w (DecNo w) := by
  have b1 := (Below.refl w.heap.size w).alloc (Nat.le_refl _) (.cells #[.int .u8 0, .int .u32 0, .slice none 0 0] 25)
  have HB := Lib.hid (hb.below (has_lt hb (by omega)) b1)
  have BB := Lib.hid b1
  have RS := Lib.hid (res_new w)
  have HL := Lib.hid hlen
  have HS := Lib.hid hs
  clear hb hlen b1 hs
  go_enter Try.func13, Try.ntmps13
  go_wp2_with fail
  generalize w.alloc (.cells #[.int .u8 0, .int .u32 0, .slice none 0 0] 25) = w1 at *
  refine (ropen_bad b o cap ps _ HB.out HL.out hc hm (fun e => HS.out e)).mono ?_
  rintro e w2 ⟨rfl, S2⟩
  have R2 := RS.out.still S2
  have c0 := R2.cellAt (i := 0) rfl
  have c1 := R2.cellAt (i := 1) rfl
  have c2 := R2.cellAt (i := 2) rfl
  have f0 := R2.free 0
  have f1 := R2.free 1
  have f2 := R2.free 2
  have B2 := Lib.hid (BB.out.trans (S2.below _))
  clear S2 R2 RS HB
  go_wp2_with fail
  refine bodyPost_ret (v := .tuple #[.agg #[.int .u8 0, .int .u32 0, .slice none 0 0], .int .i64 40]) ?_ rfl ⟨rfl, dec_no B2.out⟩
  rw [results_cell_tmp rfl]
  go_simp
end Go.Proofs.Ytamibckpkhpmfaa.Sf
