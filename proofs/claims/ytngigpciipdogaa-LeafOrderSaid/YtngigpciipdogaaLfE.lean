/- Contract: each with the closure of Encode. -/
import Derived.Test.YtngigpciipdogaaLfD
import Derived.Deep.RegionWith
import Derived.Deep.DeepCutAuto
namespace Go.Proofs.Ytngigpciipdogaa.Lf
open Go.RowKit Go.Proofs.Ytngigpciipdogaa.Oct
set_option linter.unusedVariables false

/-- Keys and values as bytes, one pair behind the other. -/
def pairs : List UInt64 → List UInt64 → List UInt8
  | k :: ks, v :: vs => bytesOf k.toNat 8 ++ bytesOf v.toNat 8 ++ pairs ks vs
  | _, _ => []
theorem pairs_snoc (ks vs : List UInt64) (h : ks.length = vs.length) (a b : UInt64) : pairs (ks ++ [a]) (vs ++ [b]) = pairs ks vs ++ bytesOf a.toNat 8 ++ bytesOf b.toNat 8 := by
  induction ks generalizing vs with
  | nil =>
    cases vs with
    | nil => simp [pairs]
    | cons v vs => cases h
  | cons k ks ih =>
    cases vs with
    | nil => cases h
    | cons v vs =>
      simp only [List.cons_append, pairs]
      rw [ih vs (by simpa using h)]
      simp [List.append_assoc]
theorem length_pairs (ks vs : List UInt64) (h : ks.length = vs.length) : (pairs ks vs).length = 16 * ks.length := by
  induction ks generalizing vs with
  | nil => cases vs <;> rfl
  | cons k ks ih =>
    cases vs with
    | nil => cases h
    | cons v vs =>
      simp only [pairs, List.length_append, length_bytesOf, List.length_cons]
      rw [ih vs (by simpa using h)]
      omega

/-- What stands in a content: the count, seven keys, seven values. -/
def content (c : UInt64) (ks vs : List UInt64) : List UInt64 := c :: (ks ++ vs)
theorem content_key (c : UInt64) (ks vs : List UInt64) (h : ks.length = 7) (i : Nat) (hi : i < 7) : (content c ks vs)[1 + i]? = some (ks[i]'(by omega)) := by
  rw [Nat.add_comm]
  simp only [content, List.getElem?_cons_succ]
  rw [List.getElem?_append_left (by omega), List.getElem?_eq_getElem]
theorem content_val (c : UInt64) (ks vs : List UInt64) (h : ks.length = 7) (h' : vs.length = 7) (i : Nat) (hi : i < 7) : (content c ks vs)[8 + i]? = some (vs[i]'(by omega)) := by
  rw [show 8 + i = (7 + i) + 1 by omega]
  simp only [content, List.getElem?_cons_succ]
  rw [List.getElem?_append_right (by omega), h, show 7 + i - 7 = i by omega, List.getElem?_eq_getElem]
theorem set_same_at (l : List UInt64) (i : Nat) (v : UInt64) (h : l[i]? = some v) : l.set i v = l := by
  obtain ⟨hi, e⟩ := List.getElem?_eq_some_iff.1 h
  subst e
  exact List.set_getElem_self hi
theorem RowN.cellAt {w : World} {g i : Nat} {T : TypeId} {ns : List UInt64} {v : UInt64} (h : RowN w g T ns) (hv : ns[i]? = some v) : w.cell? ⟨g, i, none⟩ = some (.int .u64 (v.toNat : Int)) := by
  obtain ⟨hi, e⟩ := List.getElem?_eq_some_iff.1 hv
  have := h.has i hi
  rw [Nat.zero_add, e] at this
  exact this
theorem RowN.back {w : World} {g i : Nat} {T : TypeId} {ns : List UInt64} {v : UInt64} (h : RowN w g T ns) (hv : ns[i]? = some v) : RowN (w.setCell ⟨g, i, none⟩ (.int .u64 (v.toNat : Int))) g T ns := by
  have := h.set i v
  rwa [set_same_at ns i v hv] at this
theorem Pen.other {w : World} {bb ab g q : Nat} {P : List UInt8} (h : Pen w bb ab g P) (i : Nat) (v : Value) (h1 : q ≠ bb) (h2 : q ≠ ab) (h3 : q ≠ g) : Pen (w.setCell ⟨q, i, none⟩ v) bb ab g P := by
  have hc : ∀ b j, q ≠ b → (w.setCell ⟨q, i, none⟩ v).cell? ⟨b, j, none⟩ = w.cell? ⟨b, j, none⟩ := fun b j hb => World.cell?_setCell_other _ _ _ _ (fun e => hb (Addr.mk.inj e).1)
  exact ⟨(hc _ _ h1).trans h.cb, (hc _ _ h2).trans h.ca, by simp [h.fa], fun j hj => (hc _ _ h3).trans (h.has j hj), fun j hj => by simpa using h.free j hj, h.le, h.n1, h.n2, h.n3⟩

theorem Pen.still {w w' : World} {bb ab g : Nat} {P : List UInt8} (h : Pen w bb ab g P) (S : Still w w') : Pen w' bb ab g P :=
  ⟨(S.cell _).trans h.cb, (S.cell _).trans h.ca, (S.frozen _).trans h.fa, h.has.still S, fun j hj => (S.frozen _).trans (h.free j hj), h.le, h.n1, h.n2, h.n3⟩
theorem Still.drew (w : World) : Still w w.drew := ⟨rfl, rfl, rfl, rfl⟩

set_option maxRecDepth 100000 in
set_option maxHeartbeats 1000000 in
theorem each_enc {w : World} {bb ab g q B : Nat} {c : UInt64} {ks vs : List UInt64} (h : Pen w bb ab g []) (R : RowN w q 42 (content c ks vs)) (hk : ks.length = 7) (hv : vs.length = 7) (hc : c.toNat < 256)
    (h1 : q ≠ bb) (h2 : q ≠ ab) (h3 : q ≠ g) (hq : B ≤ q) (hg : B ≤ g) (ha : B ≤ ab) :
    Calls Try.prog 14 #[.pointer (some ⟨q, 0, none⟩), .func (.func 15) #[] #[.pointer (some ⟨bb, 0, none⟩), .pointer (some ⟨ab, 0, none⟩)]] w fun e w' => e = .returned (.tuple #[]) ∧ Pen w' bb ab g (bytesOf c.toNat 1 ++ pairs ks vs) ∧ Below B w w' := by
  have HP := Lib.hid h
  have HR := Lib.hid R
  have hc0 : (content c ks vs)[0]? = some c := rfl
  have r0 := R.cellAt hc0
  have r1 := R.free 0
  have HC := Lib.hid hc
  clear h R hc
  go_enter Try.func14, Try.ntmps14
  go_wp2_with fail
  refine (enc1 HP.out c 1 (by omega) (by omega) (by simp) (by simpa using HC.out)).mono ?_
  rintro e w2 ⟨rfl, P2, A2⟩
  rw [List.nil_append] at P2
  have R2 := A2.rowN HR.out h3 h2
  have r2 := R2.cellAt hc0
  have f2 := R2.free 0
  have R3 := Lib.hid (R2.back hc0)
  have P3 := Lib.hid (P2.other 0 (.int .u64 (c.toNat : Int)) h1 h2 h3)
  have B3 := Lib.hid ((A2.below hg ha).setCell (p := ⟨q, 0, none⟩) hq (.int .u64 (c.toNat : Int)))
  clear P2 A2 R2 r0 r1 HP HR HC hc0
  go_wp2_with fail
  go_loopw [14] (fun i wr => ∃ k : Nat, k ≤ 7 ∧ i = .int .i64 (k : Int) ∧ Hid (RowN wr q 42 (content c ks vs)) ∧ Hid (Pen wr bb ab g (bytesOf c.toNat 1 ++ pairs (ks.take k) (vs.take k))) ∧ Hid (Below B w wr)) (fun i _ => 7 - (intOf i).toNat)
  case atStart => exact ⟨0, by omega, rfl, R3, Lib.hid (by simpa [pairs] using P3.out), B3⟩
  case round =>
    obtain ⟨k, hk7, rfl, HR, HP, HB⟩ := hrel
    by_cases hlt : k < 7
    · have e1 := content_key c ks vs hk k hlt
      have e2 := content_val c ks vs hk hv k hlt
      have HL := Lib.hid (show (bytesOf c.toNat 1 ++ pairs (ks.take k) (vs.take k)).length = 1 + 16 * k by
        rw [List.length_append, length_bytesOf, length_pairs _ _ (by simp; omega)]; simp; omega)
      have HSN := Lib.hid (show bytesOf c.toNat 1 ++ pairs (ks.take k) (vs.take k) ++ bytesOf (ks[k]'(by omega)).toNat 8 ++ bytesOf (vs[k]'(by omega)).toNat 8 = bytesOf c.toNat 1 ++ pairs (ks.take (k + 1)) (vs.take (k + 1)) by
        rw [List.take_succ_eq_append_getElem (by omega : k < ks.length), List.take_succ_eq_append_getElem (by omega : k < vs.length), pairs_snoc _ _ (by simp; omega)]
        simp [List.append_assoc])
      generalize ks[k]'(by omega) = x at e1 HSN
      generalize vs[k]'(by omega) = y at e2 HSN
      have k1 := HR.out.cellAt e1
      have k1f := HR.out.free (1 + k)
      have HP2 := Lib.hid (HP.out.still (Still.drew wr))
      have HR2 := Lib.hid (HR.out.still (Still.drew wr))
      have HB2 := Lib.hid (HB.out.trans ((Still.drew wr).below B))
      have HL8 := Lib.hid (show (bytesOf c.toNat 1 ++ pairs (ks.take k) (vs.take k)).length + 8 ≤ 123 by rw [HL.out]; omega)
      have hx := Lib.hid (show x.toNat < 256 ^ 8 from u64_lt x)
      have hy := Lib.hid (show y.toNat < 256 ^ 8 from u64_lt y)
      go_wp2_with fail
      go_region_with (go_at_call 15; refine (enc1 HP2.out x 8 (by decide) (by decide) HL8.out hx.out).mono ?_; rintro e w3 ⟨rfl, P3, A3⟩; have R3 := A3.rowN HR2.out h3 h2; have r3 := R3.cellAt e1; have f3 := R3.free (1 + k); have HR3 := Lib.hid (R3.back e1); have HP3 := Lib.hid (P3.other (1 + k) (.int .u64 (x.toNat : Int)) h1 h2 h3); have HB3 := Lib.hid ((HB2.out.trans (A3.below hg ha)).setCell (p := ⟨q, 1 + k, none⟩) hq (.int .u64 (x.toNat : Int))); clear P3 A3 R3)
      generalize w3.setCell ⟨q, 1 + k, none⟩ (.int .u64 (x.toNat : Int)) = w4 at *
      have k2 := HR3.out.cellAt e2
      have k2f := HR3.out.free (8 + k)
      have HP4 := Lib.hid (HP3.out.still (Still.drew w4))
      have HR4 := Lib.hid (HR3.out.still (Still.drew w4))
      have HB4 := Lib.hid (HB3.out.trans ((Still.drew w4).below B))
      have HL9 := Lib.hid (show (bytesOf c.toNat 1 ++ pairs (ks.take k) (vs.take k) ++ bytesOf x.toNat 8).length + 8 ≤ 123 by rw [List.length_append, HL.out, length_bytesOf]; omega)
      clear HP2 HR2 HB2 HP HR HB k1 k1f r3 f3 e1 HP3 HR3 HB3
      go_wp2_with fail
      go_region_with (go_at_call 15; refine (enc1 HP4.out y 8 (by decide) (by decide) HL9.out hy.out).mono ?_; rintro e w5 ⟨rfl, P5, A5⟩; have R5 := A5.rowN HR4.out h3 h2; have r5 := R5.cellAt e2; have f5 := R5.free (8 + k); have HR5 := Lib.hid (R5.back e2); have HP5 := Lib.hid (P5.other (8 + k) (.int .u64 (y.toNat : Int)) h1 h2 h3); have HB5 := Lib.hid ((HB4.out.trans (A5.below hg ha)).setCell (p := ⟨q, 8 + k, none⟩) hq (.int .u64 (y.toNat : Int))); clear P5 A5 R5)
      generalize w5.setCell ⟨q, 8 + k, none⟩ (.int .u64 (y.toNat : Int)) = w6 at *
      clear k2 k2f HP4 HR4 HB4 e2 r5 f5
      go_wp2_with fail
      go_roundw
      case rel => exact ⟨k + 1, by omega, by go_num, HR5, Lib.hid (by have := HP5.out; rwa [HSN.out] at this), HB5⟩
      case measure => simp [intOf]; omega
    · obtain rfl : k = 7 := by omega
      go_wp2_with fail
      go_end0
      have hp := HP.out
      rw [List.take_of_length_le (by omega), List.take_of_length_le (by omega)] at hp
      exact ⟨rfl, hp, HB.out⟩
end Go.Proofs.Ytngigpciipdogaa.Lf
