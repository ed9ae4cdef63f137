/- Bytes that a call owns, what append makes of them; what the reference's Put and Seal answer. -/
import Derived.Test.YtbnmhbhebadkmaaOctS
namespace Go.Proofs.Ytbnmhbhebadkmaa.Oct
open Go.RowKit
set_option linter.unusedVariables false

/-- The slice v is the call's own, and holds bs. -/
def Own (w : World) (base : Nat) (v : Value) (bs : List UInt8) : Prop := w.ownsRow base 5 1 v bs.length (vals bs)
theorem Own.lit (w : World) (base : Nat) (bs : List UInt8) (hb : base ≤ w.heap.size) (hm : bs.length ≤ maxLen) :
    Own (w.alloc (.cells (vals bs).toArray 5)) base (.slice (some ⟨w.heap.size, 0, none⟩) bs.length bs.length) bs :=
  World.ownsRow_lit w (vals bs).toArray bs.length hb hm (by simp [length_vals])
theorem Own.slice {w : World} {base : Nat} {v : Value} {bs : List UInt8} (h : Own w base v bs) :
    ∃ a cap, v = .slice a bs.length cap ∧ Told w a bs ∧ bs.length ≤ cap ∧ cap ≤ maxLen ∧ (bs ≠ [] → ∃ g, a = some ⟨g, 0, none⟩ ∧ base ≤ g ∧ g < w.heap.size ∧ Has w g 0 bs) := by
  rcases h.2 with ⟨rfl, h0⟩ | ⟨g, cap, cur, rfl, hb, hg, hn, hm, hs, ht⟩
  · have : bs = [] := List.eq_nil_of_length_eq_zero h0
    subst this
    exact ⟨none, 0, rfl, .inl rfl, Nat.le_refl _, Nat.zero_le _, fun h => absurd rfl h⟩
  · have hh : Has w g 0 bs := fun i hi => by
      rw [Nat.zero_add]
      have := World.ownsRow.cellAt h i (by omega)
      rw [this]
      simp [vals, hi]
    exact ⟨_, cap, rfl, hh.told, hn, hm, fun _ => ⟨g, rfl, hb, (Array.getElem?_eq_some_iff.1 hg).1, hh⟩⟩
theorem Own.kept {w w' : World} {base B : Nat} {v : Value} {bs : List UInt8} (h : Own w base v bs) (k : Below B w w') (hB : w.heap.size ≤ B) : Own w' base v bs := by
  refine ⟨h.1, ?_⟩
  rcases h.2 with hn | ⟨g, cap, cur, rfl, hb, hgg, rest⟩
  · exact .inl hn
  · refine .inr ⟨g, cap, cur, rfl, hb, ?_, rest⟩
    rw [k.block g (Nat.lt_of_lt_of_le (Array.getElem?_eq_some_iff.1 hgg).1 hB)]
    exact hgg
theorem byte_info : (Try.prog.info? 5).map (fun i => (i.zero, i.size, i.bytes)) = some (some (.int .u8 0), 1, 1) := by kernel_rfl

theorem run_append_bytes (w : World) (ty : TypeId) (base : Nat) (v : Value) (xs ys : List UInt8) (hown : Own w base v xs) (a : Option Addr) (len cap : Nat) (hlen : ys.length = len) (hT : Told w a ys) (hnil : a = none → cap = 0)
    (hsz : xs.length + len ≤ 140737488355328) (hbase : base ≤ w.heap.size) :
    ∃ v' w', (Builtin.append_ #[22, 22] ty #[v, .slice a len cap]).run Try.prog w = .ok v' w' ∧ Own w' base v' (xs ++ ys) ∧ Below base w w' := by
  obtain ⟨i0, hi, hz0, hz1, hz2⟩ := info_parts byte_info
  cases a with
  | none =>
    have h0 : ys = [] := by
      rcases hT with h | ⟨b, o, h, _⟩
      · exact h
      · cases h
    subst h0
    obtain rfl : len = 0 := by simpa using hlen.symm
    rw [hnil rfl]
    exact ⟨v, w, run_append_owned_none (P := Try.prog) (w := w) base 22 ty 5 i0 1 Try.underlying22 hi v _ _ hown, by simpa using hown, Below.refl _ _⟩
  | some x =>
    have hnews : ∀ j u, (vals ys)[j]? = some u → w.cell? (x.add j) = some u := fun j u hj => by
      have hjl : j < ys.length := by
        rcases Nat.lt_or_ge j ys.length with h | h
        · exact h
        · rw [List.getElem?_eq_none (by rw [length_vals]; exact h)] at hj; cases hj
      have hv : u = .int .u8 (ys[j].toNat : Int) := by simpa [vals, hjl] using hj.symm
      rcases hT with h | ⟨b, o, h, k⟩
      · subst h; simp at hjl
      · cases h
        rw [hv, add_plain]
        exact k j hjl
    obtain ⟨v', w', hr, ho, hg, _⟩ := run_append_own (P := Try.prog) w base 22 ty 5 i0 (.int .u8 0) 1 1 Try.underlying22 hi hz0 hz1 hz2 rfl (by omega) v xs.length (vals xs) hown x len cap (vals ys)
      (by rw [length_vals, hlen, Nat.mul_one]) hnews (fun u hu => by simp [vals] at hu; obtain ⟨c, _, rfl⟩ := hu; rfl) (by unfold maxLen; omega) (by omega) hbase
    refine ⟨v', w', hr, ?_, ⟨hg.os, hg.tape, hg.output, hg.size, fun k hk => hg.block k (by omega) (fun e => ?_)⟩⟩
    · unfold Own
      rw [List.length_append, hlen, show vals (xs ++ ys) = vals xs ++ vals ys by simp [vals]]
      exact ho
    · have := (World.ownsRow.lt hown k e.symm).1
      omega

theorem wpList_append_bytes {w : World} {ops : Array Oper} {rest : List Oper} {o : Oper} {a : Act} {Q : Exit → Act → World → Prop} (hgd : o.guard = none) (s x : Operand)
    (ho : o.op = .call { callee := .builtin .append, args := #[s, x], argTypes := #[22, 22] }) (base : Nat) (v : Value) (xs ys : List UInt8) (hs : a.eval s = v) (hown : Own w base v xs)
    (ad : Option Addr) (len cap : Nat) (hx : a.eval x = .slice ad len cap) (hlen : ys.length = len) (hT : Told w ad ys) (hnil : ad = none → cap = 0) (hsz : xs.length + len ≤ 140737488355328) (hbase : base ≤ w.heap.size)
    (h : ∀ v' w', Own w' base v' (xs ++ ys) → Below base w w' → wpList Try.prog ops Q rest (a.put o.dst v') w') : wpList Try.prog ops Q (o :: rest) a w := by
  refine wpList_plain hgd fun K hK => ?_
  obtain ⟨v', w', hrun, h2, h3⟩ := run_append_bytes w o.type base v xs ys hown ad len cap hlen hT hnil hsz hbase
  unfold Oper.wp
  simp [execOp, ho, resolve, invoke, builtin, hs, hx, hrun, Result.andThen]
  exact hK _ _ (h _ _ h2 h3)

theorem own_none (w : World) : Own (w.alloc (.cells #[] 5)) w.heap.size (.slice (some ⟨w.heap.size, 0, none⟩) 0 0) [] := Own.lit w w.heap.size [] (Nat.le_refl _) (by decide)
theorem alloc_base (w : World) (o : Obj) : w.heap.size ≤ (w.alloc o).heap.size := by simp
theorem Told.alloc {w : World} {a : Option Addr} {ys : List UInt8} (hT : Told w a ys) (o : Obj) : Told (w.alloc o) a ys := by
  rcases hT with h | ⟨b, o', h, k⟩
  · exact .inl h
  · by_cases h0 : ys = []
    · exact .inl h0
    · exact .inr ⟨b, o', h, k.below (World.block_lt_of_cell? w _ (k 0 (List.length_pos_iff.2 h0))) ((Below.refl _ _).alloc (Nat.le_refl _) _)⟩

def PutPost (w : World) (ok : Bool) (bs : List UInt8) (e : Ending) (w' : World) : Prop :=
  ∃ v, e = .returned (.tuple #[v, .bool ok]) ∧ Own w' w.heap.size v bs ∧ Below w.heap.size w w'

set_option maxHeartbeats 800000 in
theorem rput_out (a : Option Addr) (len cap : Nat) (bs : List UInt8) (hlen : bs.length = len) (p s n : Int) (w : World) (hl : len ≤ 300) (hT : Told w a bs) (hnil : a = none → cap = 0) (h : ¬ (1 ≤ s ∧ s ≤ 8 ∧ 0 ≤ p ∧ p ≤ len - s)) :
    Calls Try.prog 21 #[.slice a len cap, .int .i64 p, .int .i64 s, .int .u64 n] w (PutPost w false bs) := by
  have O1 := Lib.hid (own_none w)
  have T1 := Lib.hid (hT.alloc (.cells #[] 5))
  have HL := Lib.hid hlen
  have HNIL := Lib.hid hnil
  have HSZ := Lib.hid (show ([] : List UInt8).length + len ≤ 140737488355328 by simp; omega)
  have H := Lib.hid h
  clear hlen hT hnil h
  go_enter Try.func21, Try.ntmps21
  go_wp2_with (at_builtin; refine wpList_append_bytes rfl _ _ rfl w.heap.size _ [] bs rfl O1.out a len cap rfl HL.out T1.out HNIL.out HSZ.out (alloc_base w _) ?_; intro v w2 O2 B2)
  replace B2 := ((Below.refl w.heap.size w).alloc (Nat.le_refl _) _).trans B2
  rw [List.nil_append] at O2
  refine (there_no _ _ _ _ _ _ (by unfold maxLen; omega) H.out).mono ?_
  rintro e w' ⟨rfl, rfl⟩
  go_wp2_with fail
  go_ret2
  exact ⟨v, rfl, O2, B2⟩

set_option maxHeartbeats 800000 in
theorem rput_big (a : Option Addr) (len cap : Nat) (bs : List UInt8) (hlen : bs.length = len) (p s n : Nat) (w : World) (hl : len ≤ 300) (hT : Told w a bs) (hnil : a = none → cap = 0) (h1 : 1 ≤ s) (h8 : s ≤ 8) (hp : p + s ≤ len) (hn : ¬ n < 256 ^ s) (hn8 : n < 18446744073709551616) :
    Calls Try.prog 21 #[.slice a len cap, .int .i64 p, .int .i64 s, .int .u64 n] w (PutPost w false bs) := by
  have O1 := Lib.hid (own_none w)
  have T1 := Lib.hid (hT.alloc (.cells #[] 5))
  have HL := Lib.hid hlen
  have HNIL := Lib.hid hnil
  have HSZ := Lib.hid (show ([] : List UInt8).length + len ≤ 140737488355328 by simp; omega)
  have HN := Lib.hid hn
  clear hlen hT hnil hn
  go_enter Try.func21, Try.ntmps21
  go_wp2_with (at_builtin; refine wpList_append_bytes rfl _ _ rfl w.heap.size _ [] bs rfl O1.out a len cap rfl HL.out T1.out HNIL.out HSZ.out (alloc_base w _) ?_; intro v w2 O2 B2)
  replace B2 := ((Below.refl w.heap.size w).alloc (Nat.le_refl _) _).trans B2
  rw [List.nil_append] at O2
  refine (there_yes _ _ _ _ _ _ (by unfold maxLen; omega) (by omega) (by omega) (by omega) (by omega)).mono ?_
  rintro e w' ⟨rfl, rfl⟩
  go_wp2_with fail
  refine (bytes_any n s _ hn8 h8).mono ?_
  rintro e w3 ⟨g, rfl, hg, R3, B3⟩
  rw [decide_eq_false HN.out]
  go_wp2_with fail
  go_ret2
  exact ⟨v, rfl, O2.kept B3 (Nat.le_refl _), B2.trans (B3.mono B2.size)⟩

theorem laid_len (bs : List UInt8) (p s n k : Nat) (hp : p + s ≤ bs.length) (hk : k ≤ s) : (bs.take p ++ (bytesOf n s).take k ++ bs.drop (p + k)).length = bs.length := by
  simp only [List.length_append, List.length_take, List.length_drop, length_bytesOf]
  omega
theorem laid_set (bs : List UInt8) (p s n k : Nat) (hp : p + s ≤ bs.length) (hk : k < s) (c : UInt8) (hc : (bytesOf n s)[k]? = some c) :
    (bs.take p ++ (bytesOf n s).take k ++ bs.drop (p + k)).set (p + k) c = bs.take p ++ (bytesOf n s).take (k + 1) ++ bs.drop (p + (k + 1)) := by
  obtain ⟨h1, rfl⟩ := List.getElem?_eq_some_iff.1 hc
  have h2 : (bs.take p ++ (bytesOf n s).take k).length = p + k := by rw [List.length_append, List.length_take, List.length_take, length_bytesOf]; omega
  rw [List.set_append_right (h := by omega), h2, Nat.sub_self, List.take_succ_eq_append_getElem h1, ← List.append_assoc, List.append_assoc (bs.take p ++ _) [_]]
  congr 1
  have h3 : p + k < bs.length := by omega
  rw [← List.getElem_cons_drop (h := h3)]
  rfl

def laid (bs : List UInt8) (p s n k : Nat) : List UInt8 := bs.take p ++ (bytesOf n s).take k ++ bs.drop (p + k)

theorem laid_end (bs : List UInt8) (p s n : Nat) : laid bs p s n s = bs.take p ++ bytesOf n s ++ bs.drop (p + s) := by
  unfold laid
  have h : (bytesOf n s).take s = bytesOf n s := List.take_of_length_le (by rw [length_bytesOf]; exact Nat.le_refl _)
  rw [h]
theorem Own.sliceLen {w : World} {base q len cap : Nat} {bs : List UInt8} (h : Own w base (.slice (some ⟨q, 0, none⟩) len cap) bs) : len = bs.length := by
  rcases h.2 with ⟨h', _⟩ | ⟨g, cap', cur, h', _⟩
  · simp at h'
  · simp only [Value.slice.injEq] at h'
    exact h'.2.1
theorem Own.set {w : World} {base q len cap : Nat} {bs : List UInt8} (h : Own w base (.slice (some ⟨q, 0, none⟩) len cap) bs) (i : Nat) (c : UInt8) :
    Own (w.setCell ⟨q, i, none⟩ (.int .u8 (c.toNat : Int))) base (.slice (some ⟨q, 0, none⟩) len cap) (bs.set i c) := by
  obtain rfl := h.sliceLen
  have := (World.ownsRow.stored h i (.int .u8 (c.toNat : Int))).1
  unfold Own
  rw [List.length_set]
  rwa [show vals (bs.set i c) = (vals bs).set i (.int .u8 (c.toNat : Int)) by simp [vals, List.map_set]]
theorem Own.frozen {w : World} {base q len cap : Nat} {bs : List UInt8} (h : Own w base (.slice (some ⟨q, 0, none⟩) len cap) bs) (i : Nat) : w.frozen? ⟨q, i, none⟩ = false := by
  obtain rfl := h.sliceLen
  exact World.ownsRow.frozenAt h i
theorem Own.has {w : World} {base q len cap : Nat} {bs : List UInt8} (h : Own w base (.slice (some ⟨q, 0, none⟩) len cap) bs) : Has w q 0 bs := by
  obtain rfl := h.sliceLen
  intro i hi
  rw [Nat.zero_add, World.ownsRow.cellAt h i (by omega)]
  simp [vals, hi]
theorem Row.other {w : World} {g q i : Nat} {bs : List UInt8} {v : Value} (h : Row w g bs) (hq : g ≠ q) : Row (w.setCell ⟨q, i, none⟩ v) g bs := by
  unfold Row at h ⊢
  rw [heap_setCell_other _ _ _ _ (by exact hq), h]

set_option maxHeartbeats 800000 in
theorem rput_yes (a : Option Addr) (len cap : Nat) (bs : List UInt8) (hlen : bs.length = len) (p s n : Nat) (w : World) (hl : len ≤ 300) (hT : Told w a bs) (hnil : a = none → cap = 0) (h1 : 1 ≤ s) (h8 : s ≤ 8) (hp : p + s ≤ len) (hn : n < 256 ^ s) (hn8 : n < 18446744073709551616) :
    Calls Try.prog 21 #[.slice a len cap, .int .i64 p, .int .i64 s, .int .u64 n] w (PutPost w true (bs.take p ++ bytesOf n s ++ bs.drop (p + s))) := by
  have O1 := Lib.hid (own_none w)
  have T1 := Lib.hid (hT.alloc (.cells #[] 5))
  have HL := Lib.hid hlen
  have HNIL := Lib.hid hnil
  have HSZ := Lib.hid (show ([] : List UInt8).length + len ≤ 140737488355328 by simp; omega)
  have HN := Lib.hid hn
  clear hlen hT hnil hn
  go_enter Try.func21, Try.ntmps21
  go_wp2_with (at_builtin; refine wpList_append_bytes rfl _ _ rfl w.heap.size _ [] bs rfl O1.out a len cap rfl HL.out T1.out HNIL.out HSZ.out (alloc_base w _) ?_; intro v w2 O2 B2)
  replace B2 := ((Below.refl w.heap.size w).alloc (Nat.le_refl _) _).trans B2
  rw [List.nil_append] at O2
  refine (there_yes _ _ _ _ _ _ (by unfold maxLen; omega) (by omega) (by omega) (by omega) (by omega)).mono ?_
  rintro e w' ⟨rfl, rfl⟩
  obtain ⟨av, cv, rfl, _, hcv, hmv, hq⟩ := O2.slice
  obtain ⟨q, rfl, hq1, hq2, _⟩ := hq (by intro h; have h2 := HL.out; rw [h] at h2; simp at h2; omega)
  rw [HL.out] at O2 hcv
  unfold maxLen at hmv
  go_wp2_with fail
  refine (bytes_any n s _ hn8 h8).mono ?_
  rintro e w3 ⟨g, rfl, hg, R3, B3⟩
  rw [decide_eq_true HN.out]
  have O3 := O2.kept B3 (Nat.le_refl _)
  have B4 := B2.trans (B3.mono B2.size)
  have gq : g ≠ q := by omega
  rw [show bs = laid bs p s n 0 by simp [laid]] at O3
  rw [HL.out]
  clear O2 B3 B2
  go_wp2_with fail
  go_loopw [13] (fun i wr => ∃ k : Nat, k ≤ s ∧ i = .int .i64 k ∧ Own wr w.heap.size (.slice (some ⟨q, 0, none⟩) len cv) (laid bs p s n k) ∧ Row wr g (bytesOf n s) ∧ Below w.heap.size w wr) (fun i _ => s - (intOf i).toNat)
  case atStart => exact ⟨0, Nat.zero_le _, rfl, O3, R3, B4⟩
  case round =>
    obtain ⟨k, hk, rfl, hO, hR, hB⟩ := hrel
    have HO := Lib.hid hO
    have HR := Lib.hid hR
    have HB := Lib.hid hB
    clear hO hR hB O3 R3 B4
    by_cases hlt : k < s
    · obtain ⟨c, hcs⟩ : ∃ c, (bytesOf n s)[k]? = some c := ⟨_, List.getElem?_eq_getElem (by rw [length_bytesOf]; exact hlt)⟩
      have hll : (laid bs p s n k).length = len := by unfold laid; rw [laid_len bs p s n k (by rw [HL.out]; exact hp) hk, HL.out]
      obtain ⟨d, hds⟩ : ∃ d, (laid bs p s n k)[p + k]? = some d := ⟨_, List.getElem?_eq_getElem (by omega)⟩
      have c1 := HR.out.has.at0 hcs
      have c2 := HO.out.has.at0 hds
      have f2 := HO.out.frozen (p + k)
      have hset := laid_set bs p s n k (by rw [HL.out]; exact hp) hlt c hcs
      have O4 := HO.out.set (p + k) c
      rw [show (laid bs p s n k).set (p + k) c = laid bs p s n (k + 1) from hset] at O4
      have HO4 := Lib.hid O4
      have HR4 := Lib.hid (HR.out.other (i := p + k) (v := .int .u8 (c.toNat : Int)) gq)
      have HB4 := Lib.hid (HB.out.setCell (p := ⟨q, p + k, none⟩) hq1 (.int .u8 (c.toNat : Int)))
      clear hcs hds hset O4 hll
      go_wp2
      go_roundw
      case rel => exact ⟨k + 1, by omega, by go_num, HO4.out, HR4.out, HB4.out⟩
      case measure => simp [intOf]; omega
    · obtain rfl : k = s := by omega
      have hO := HO.out
      rw [laid_end] at hO
      go_wp2
      go_ret2
      exact ⟨_, rfl, hO, HB.out⟩
end Go.Proofs.Ytbnmhbhebadkmaa.Oct
