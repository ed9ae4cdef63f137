/- Layer 12: maps of numbers; the contracts of all and alike, catchmentlaw12's own. -/
import Derived.Test.YtllopocekegljaaNoL
import Derived.Maps.OwnSet
import Derived.Maps.RangeWalk
import Derived.Maps.Ext
import Derived.Lib.SlKeysI
namespace Go.Proofs.Ytllopocekegljaa.No
open Go.RowKit Go.Proofs.Ytllopocekegljaa.Oct Go.Proofs.Ytllopocekegljaa.Lf Go.Proofs.Ytllopocekegljaa.Mv Go.Maps Go.ChangeMaps
set_option linter.unusedVariables false
set_option linter.unusedSimpArgs false

def klit (k : UInt64) : Lit := .int .u64 (k.toNat : Int)
def kdat (v : UInt64) : DataW Unit := .lit (.int .u64 (v.toNat : Int))
theorem klit_inj {a b : UInt64} (h : klit a = klit b) : a = b := by
  simp only [klit, Lit.int.injEq, true_and] at h
  exact UInt64.toNat_inj.1 (by omega)
theorem kdat_inj {a b : UInt64} (h : kdat a = kdat b) : a = b := by
  simp only [kdat, DataW.lit.injEq, Lit.int.injEq, true_and] at h
  exact UInt64.toNat_inj.1 (by omega)
theorem klit_key (k : UInt64) : WideAt.IsKeyLit (klit k) := trivial
theorem num_wf (c : UInt64) : (Lit.int .u64 (c.toNat : Int)).wf = true := by
  have := u64_lt c
  have h : IntKind.u64.min ≤ (c.toNat : Int) ∧ (c.toNat : Int) ≤ IntKind.u64.max := by
    refine ⟨?_, ?_⟩
    · show (0 : Int) ≤ _
      omega
    · show _ ≤ (18446744073709551615 : Int)
      omega
  simpa [Lit.wf] using h
theorem num_of {x : Int} (h : (Lit.int .u64 x).wf = true) : ∃ c : UInt64, x = (c.toNat : Int) := by
  have := u64_wf h
  refine ⟨UInt64.ofNat x.toNat, ?_⟩
  have h4 : x.toNat % 18446744073709551616 = x.toNat := Nat.mod_eq_of_lt (by omega)
  simp [h4]
  omega
/-- A map says f; n keys. -/
structure View (D : DataW Unit) (f : UInt64 → Option UInt64) (n : Nat) : Prop where
  tidy : Tidy D
  has : ∀ kl, Maps.has D kl = true ↔ ∃ k, kl = klit k ∧ (f k).isSome = true
  at' : ∀ k v z, f k = some v → D.atKey (klit k) z = kdat v
  size : Maps.size D = n
theorem View.hasKey {D : DataW Unit} {f : UInt64 → Option UInt64} {n : Nat} (h : View D f n) (k : UInt64) : Maps.has D (klit k) = (f k).isSome := by
  cases hf : (f k).isSome
  · cases hh : Maps.has D (klit k)
    · rfl
    · obtain ⟨j, e, hj⟩ := (h.has _).1 hh
      rw [klit_inj e, hj] at hf
      cases hf
  · exact (h.has _).2 ⟨k, rfl, hf⟩
theorem view_none : View (.map []) (fun _ => none) 0 := ⟨tidy_empty, fun kl => ⟨fun h => (by cases h), fun ⟨k, _, h⟩ => by cases h⟩, fun k v z h => (by cases h), rfl⟩
theorem View.put {D : DataW Unit} {f : UInt64 → Option UInt64} {n : Nat} (h : View D f n) (k v : UInt64) : View (D.put (klit k) (kdat v)) (fun x => if x = k then some v else f x) (if (f k).isSome then n else n + 1) := by
  refine ⟨h.tidy.put (klit_key k) _, fun kl => ?_, fun x y z hx => ?_, ?_⟩
  · by_cases e : kl = klit k
    · subst e
      rw [has_put_same h.tidy.isMap (klit_key k)]
      exact ⟨fun _ => ⟨k, rfl, by simp⟩, fun _ => rfl⟩
    · rw [has_put_other e, h.has]
      constructor
      · rintro ⟨j, rfl, hj⟩
        exact ⟨j, rfl, by rw [if_neg (fun e2 => e (by rw [e2]))]; exact hj⟩
      · rintro ⟨j, rfl, hj⟩
        rw [if_neg (fun e2 => e (by rw [e2]))] at hj
        exact ⟨j, rfl, hj⟩
  · by_cases e : x = k
    · subst e
      simp at hx
      subst hx
      exact atKey_put_same h.tidy.isMap (klit_key x) _ z
    · simp only [if_neg e] at hx
      rw [atKey_put_other (fun e2 => e (klit_inj e2))]
      exact h.at' x y z hx
  · rw [size_put h.tidy, h.hasKey, h.size]
theorem View.del {D : DataW Unit} {f : UInt64 → Option UInt64} {n : Nat} (h : View D f n) (k : UInt64) : View (D.del (klit k)) (fun x => if x = k then none else f x) (n - (if (f k).isSome then 1 else 0)) := by
  refine ⟨h.tidy.del _, fun kl => ?_, fun x y z hx => ?_, ?_⟩
  · by_cases e : kl = klit k
    · subst e
      rw [has_del_same]
      refine ⟨fun h => (by cases h), ?_⟩
      rintro ⟨j, e, hj⟩
      rw [if_pos (klit_inj e).symm] at hj
      cases hj
    · rw [has_del_other e, h.has]
      constructor
      · rintro ⟨j, rfl, hj⟩
        exact ⟨j, rfl, by rw [if_neg (fun e2 => e (by rw [e2]))]; exact hj⟩
      · rintro ⟨j, rfl, hj⟩
        rw [if_neg (fun e2 => e (by rw [e2]))] at hj
        exact ⟨j, rfl, hj⟩
  · by_cases e : x = k
    · simp only [if_pos e] at hx
      cases hx
    · simp only [if_neg e] at hx
      rw [atKey_del_other (fun e2 => e (klit_inj e2))]
      exact h.at' x y z hx
  · have := size_del (k := klit k) h.tidy
    rw [h.hasKey, h.size] at this
    omega
theorem View.ext {D D' : DataW Unit} {f : UInt64 → Option UInt64} {n n' : Nat} (h : View D f n) (h' : View D' f n') (c : Canon D) (c' : Canon D') : D = D' := by
  refine Maps.ext c c' (fun kl => ?_) (fun kl z hh => ?_)
  · rw [Bool.eq_iff_iff, h.has, h'.has]
  · obtain ⟨k, rfl, hk⟩ := (h.has kl).1 hh
    obtain ⟨v, hv⟩ := Option.isSome_iff_exists.1 hk
    rw [h.at' k v z hv, h'.at' k v z hv]
theorem keysU : Keyed Try.prog 25 := int_keyed Try.underlying25
theorem zeroU (w : World) : (zeroValue 25).run Try.prog w = .ok (.int .u64 0) w := by kernel_rfl
/-- A map in memory says f; n keys. -/
def MapV (w : World) (b cap : Nat) (f : UInt64 → Option UInt64) (n : Nat) : Prop := ∃ D : DataW Unit, w.ownsMap Try.prog 25 (plainElem Try.prog 25) b cap D ∧ View D f n
theorem MapV.lt {w : World} {b cap : Nat} {f : UInt64 → Option UInt64} {n : Nat} (h : MapV w b cap f n) : b < w.heap.size := by
  obtain ⟨D, h, _⟩ := h
  exact h.lt
theorem MapV.block {w w' : World} {b cap : Nat} {f : UInt64 → Option UInt64} {n : Nat} (h : MapV w b cap f n) (k : w'.heap[b]? = w.heap[b]?) : MapV w' b cap f n := by
  obtain ⟨D, ⟨es, clock, hb, rest⟩, v⟩ := h
  exact ⟨D, ⟨es, clock, k.trans hb, rest⟩, v⟩
theorem MapV.below {w w' : World} {b cap B : Nat} {f : UInt64 → Option UInt64} {n : Nat} (h : MapV w b cap f n) (hb : b < B) (k : Below B w w') : MapV w' b cap f n := h.block (k.block b hb)
theorem MapV.far {w w' : World} {b cap : Nat} {f : UInt64 → Option UInt64} {n : Nat} (h : MapV w b cap f n) (k : Below w.heap.size w w') : MapV w' b cap f n := h.below h.lt k
theorem MapV.congr {w : World} {b cap : Nat} {f g : UInt64 → Option UInt64} {n m : Nat} (h : MapV w b cap f n) (e : ∀ k, f k = g k) (hn : n = m) : MapV w b cap g m := by
  have : f = g := funext e
  subst this
  subst hn
  exact h

/-- What a node's keys have. -/
def look (ks vs : List UInt64) (k : UInt64) : Option UInt64 := ((ks.zip vs).find? (fun p => p.1 == k)).map (·.2)
theorem look_take {ks vs : List UInt64} (hl : vs.length = ks.length) (hr : Rises ks) {i : Nat} (hi : i < ks.length) (x : UInt64) : look (ks.take (i + 1)) (vs.take (i + 1)) x = if x = ks[i] then some (vs[i]'(by omega)) else look (ks.take i) (vs.take i) x := by
  unfold look
  rw [List.take_succ_eq_append_getElem hi, List.take_succ_eq_append_getElem (by omega : i < vs.length), List.zip_append (by simp; omega), List.find?_append]
  by_cases e : x = ks[i]
  · have hn : ((ks.take i).zip (vs.take i)).find? (fun p => p.1 == x) = none := by
      rw [List.find?_eq_none]
      intro p hp
      have h1 := List.of_mem_zip hp
      obtain ⟨j, hj, ej⟩ := List.mem_iff_getElem.1 h1.1
      rw [List.length_take] at hj
      rw [List.getElem_take] at ej
      have h2 := (List.pairwise_iff_getElem.1 hr) j i (by omega) hi (by omega)
      rw [ej, ← e] at h2
      simp only [beq_iff_eq]
      intro e3
      rw [e3] at h2
      omega
    rw [hn, if_pos e]
    simp [e]
  · rw [if_neg e]
    have : List.find? (fun p => p.1 == x) ([ks[i]].zip [vs[i]'(by omega)]) = none := by simp [Ne.symm e]
    rw [this, Option.or_none]
theorem look_none_take {ks vs : List UInt64} (hl : vs.length = ks.length) (hr : Rises ks) {i : Nat} (hi : i < ks.length) : look (ks.take i) (vs.take i) ks[i] = none := by
  unfold look
  rw [Option.map_eq_none_iff, List.find?_eq_none]
  intro p hp
  have h1 := List.of_mem_zip hp
  obtain ⟨j, hj, ej⟩ := List.mem_iff_getElem.1 h1.1
  rw [List.length_take] at hj
  rw [List.getElem_take] at ej
  have h2 := (List.pairwise_iff_getElem.1 hr) j i (by omega) hi (by omega)
  simp only [beq_iff_eq]
  intro e3
  rw [ej, e3] at h2
  omega

set_option maxRecDepth 100000 in
set_option maxHeartbeats 4000000 in
theorem all_yes (l : Bool) {w : World} {A B : Option Addr} {n c m d : Nat} {ks vs : List UInt64} (h : Nd w A n c B m d ks vs) (hok : Ok l ks vs) :
    Calls Try.prog 26 #[.agg #[.bool l, .slice A n c, .slice B m d]] w fun e w' => ∃ b, e = .returned (.tuple #[.map (some b), .bool true]) ∧ MapV w' b n (look ks vs) n ∧ w.heap.size ≤ b ∧ Below w.heap.size w w' := by
  have kl := h.kl
  obtain rfl : m = n := by rw [← h.vl, ← kl]; exact hok.2.1
  have BB := Lib.hid (show Below w.heap.size w (w.alloc (.cells #[.bool l, .slice A m c, .slice B m d] 24)) from box_below w l A m c B m d)
  have HBX := Lib.hid (show RowV (w.alloc (.cells #[.bool l, .slice A m c, .slice B m d] 24)) w.heap.size 24 [.bool l, .slice A m c, .slice B m d] from box_row w l A m c B m d)
  have HN := Lib.hid (h.below BB.out)
  have h7 := hok.1
  have HK := Lib.hid hok
  have HN0 := Lib.hid h
  have hmm := @run_makeMap Try.prog
  have hs1 : (w.alloc (.cells #[.bool l, .slice A m c, .slice B m d] 24)).heap.size = w.heap.size + 1 := by simp
  clear h hok
  go_enter Try.func26, Try.ntmps26
  go_wp2_with fail
  generalize w.alloc (.cells #[.bool l, .slice A m c, .slice B m d] 24) = w1 at *
  refine (right_any l HN.out).mono ?_
  rintro e w2 ⟨rfl, B2⟩
  rw [decide_eq_true HK.out]
  have BB2 := Lib.hid (BB.out.trans (B2.mono BB.out.size))
  have HBX2 := Lib.hid (HBX.out.below HBX.out.lt B2)
  have HN2 := Lib.hid (HN.out.below B2)
  have hw2 : w.heap.size + 1 ≤ w2.heap.size := by have := B2.size; omega
  clear B2
  have c1 := HBX2.out.cellAt (i := 1) rfl
  have c2 := HBX2.out.cellAt (i := 2) rfl
  have hmn : ((m : Int) != (m : Int)) = false := by simp
  go_upto_region 4 with (fail)
  have k3 := (Below.refl w2.heap.size w2).alloc (Nat.le_refl _) (.map #[] 0)
  have HM := Lib.hid (show MapV (w2.alloc (.map #[] 0)) w2.heap.size 0 (look (ks.take 0) (vs.take 0)) 0 from ⟨.map [], World.ownsMap_made w2 Try.prog 25 (plainElem Try.prog 25), by
    have := view_none
    exact this⟩)
  have BB3 := Lib.hid (BB2.out.trans (k3.mono BB2.out.size))
  have HBX3 := Lib.hid (HBX2.out.below HBX2.out.lt k3)
  have HN3 := Lib.hid (HN2.out.below k3)
  obtain ⟨bm, hbm⟩ : ∃ q, q = w2.heap.size := ⟨_, rfl⟩
  generalize w2.alloc (.map #[] 0) = w3 at *
  rw [← hbm] at HM ⊢
  have hbm2 : w.heap.size + 1 ≤ bm := by omega
  have hw3 : w.heap.size + 1 ≤ w3.heap.size := by have := BB3.out.size; have := HBX3.out.lt; omega
  clear hbm
  have c3 := HBX3.out.cellAt (i := 1) rfl
  clear c1 c2 k3
  go_wp2_with fail
  clear c3
  go_loopw [23] (fun i wr => ∃ j : Nat, j ≤ m ∧ i = .int .i64 (j : Int) ∧ Hid (MapV wr bm j (look (ks.take j) (vs.take j)) j) ∧ Hid (Below (w.heap.size + 1) w3 wr)) (fun i _ => m - (Go.RowKit.intOf i).toNat)
  case atStart => exact ⟨0, Nat.zero_le _, rfl, HM, Lib.hid (Below.refl _ _)⟩
  case round =>
    obtain ⟨j, hj, rfl, HMj, HBj⟩ := hrel
    have hbx := HBX3.out.below (by omega) HBj.out
    have e1 := hbx.cellAt (i := 1) rfl
    have e2 := hbx.cellAt (i := 2) rfl
    by_cases hlt : j < m
    · have hjk : j < ks.length := by omega
      have hjv : j < vs.length := by rw [HN3.out.vl]; exact hlt
      have hlm : j < maxLen := by unfold maxLen; omega
      have HNj := Lib.hid (show ToldN wr A ks ∧ ToldN wr B vs from ⟨HN0.out.ks.below (BB3.out.trans (HBj.out.mono (by omega))), HN0.out.vs.below (BB3.out.trans (HBj.out.mono (by omega)))⟩)
      obtain ⟨bk, ok, rfl, hK⟩ := HNj.out.1.has (by omega)
      obtain ⟨bv, ov, rfl, hV⟩ := HNj.out.2.has (by omega)
      have ck := hK j hjk
      have cv := hV j hjv
      have ET := Lib.hid (look_take HK.out.2.1 HK.out.2.2.1 hjk)
      have EN := Lib.hid (look_none_take (vs := vs) HK.out.2.1 HK.out.2.2.1 hjk)
      generalize ks[j] = kj at ck ET EN
      generalize vs[j] = vj at cv ET
      obtain ⟨D, hown, hview⟩ := HMj.out
      have HV := Lib.hid hview
      have hwk := num_wf kj
      have hwv := num_wf vj
      clear hK hV hview hbx HMj
      go_wp2_with (first
        | (at_mapUpdate; refine wpList_mapUpdate_own _ rfl _ _ _ 45 rfl 25 25 keysU Try.underlying45 _ bm _ _ rfl hown hlm _ _ (klit kj) rfl rfl (keyOf_int_mk Try.underlying25 hwk) (kdat vj) [] (plainElem_int Try.underlying25 hwv) ?_; intro w5 hown5 hg5; go_frame)
        | go_in)
      go_roundw
      case rel => exact ⟨j + 1, by omega, by go_num, Lib.hid (MapV.congr ⟨_, hown5, HV.out.put kj vj⟩ (fun x => (ET.out x).symm) (by rw [EN.out]; rfl)), Lib.hid (HBj.out.trans ⟨hg5.os, hg5.tape, hg5.output, hg5.size, fun q hq => hg5.block q (by have := HBj.out.size; omega) (fun e => by have := Option.some.inj e; omega)⟩)⟩
      case measure => simp [Go.RowKit.intOf]; omega
    · obtain rfl : j = m := by omega
      have et : ks.take j = ks := List.take_of_length_le (by omega)
      have ev : vs.take j = vs := List.take_of_length_le (by rw [HN3.out.vl]; exact Nat.le_refl _)
      rw [et, ev] at HMj
      obtain ⟨D, hown, hview⟩ := HMj.out
      have hlen := fun ty => hown.drew.len Try.underlying45 ty
      rw [hview.size] at hlen
      have HV := Lib.hid hview
      clear hview et ev
      go_wp2_with fail
      go_region
      go_wp2_with fail
      go_ret2
      exact ⟨bm, rfl, ⟨D, hown.drew, HV.out⟩, by omega, BB3.out.trans ((HBj.out.mono (by omega)).trans ((show Still wr wr.drew from ⟨rfl, rfl, rfl, rfl⟩).below _))⟩

set_option maxRecDepth 100000 in
set_option maxHeartbeats 1000000 in
theorem all_no (l : Bool) {w : World} {A B : Option Addr} {n c m d : Nat} {ks vs : List UInt64} (h : Nd w A n c B m d ks vs) (hok : ¬ Ok l ks vs) :
    Calls Try.prog 26 #[.agg #[.bool l, .slice A n c, .slice B m d]] w fun e w' => e = .returned (.tuple #[.map none, .bool false]) ∧ Below w.heap.size w w' := by
  have BB := Lib.hid (box_below w l A n c B m d)
  have HN := Lib.hid (h.below BB.out)
  have HK := Lib.hid hok
  clear h hok
  go_enter Try.func26, Try.ntmps26
  go_wp2_with fail
  refine (right_any l HN.out).mono ?_
  rintro e w2 ⟨rfl, B2⟩
  rw [decide_eq_false HK.out]
  have BB2 := Lib.hid (BB.out.trans (B2.mono BB.out.size))
  clear B2
  go_wp2_with fail
  go_ret2
  exact ⟨rfl, BB2.out⟩

set_option maxRecDepth 100000 in
set_option maxHeartbeats 4000000 in
/-- Two maps that say the same. -/
theorem alike_yes {w : World} {b1 c1 b2 c2 n : Nat} {f : UInt64 → Option UInt64} (h1 : MapV w b1 c1 f n) (h2 : MapV w b2 c2 f n) :
    Calls Try.prog 27 #[.map (some b1), .map (some b2)] w fun e w' => e = .returned (.bool true) ∧ Below w.heap.size w w' := by
  obtain ⟨D1, o1, v1⟩ := h1
  obtain ⟨D2, o2, v2⟩ := h2
  have l1 := fun ty => o1.len Try.underlying45 ty
  have l2 := fun ty => o2.len Try.underlying45 ty
  rw [v1.size] at l1
  rw [v2.size] at l2
  have V1 := Lib.hid v1
  have V2 := Lib.hid v2
  have hb1 := o1.lt
  have hb2 := o2.lt
  have hnn : ((n : Int) != (n : Int)) = false := by simp
  clear v1 v2
  go_enter Try.func27, Try.ntmps27
  go_wp2_with (first
    | (at_range; refine wpList_range_own _ rfl _ 45 rfl 25 25 keysU Try.underlying45 _ b1 _ _ rfl o1 ?_; intro w0 hrg0 hg0 hs0)
    | go_in)
  have k0 := Lib.hid (show Below w.heap.size w w0 from ⟨hg0.os, hg0.tape, hg0.output, hg0.size, fun q hq => hg0.block q hq (by simp)⟩)
  go_frame
  clear l1 l2 hnn
  go_loopw [5] (fun _ wr => ∃ (left : Lit → Bool) (cnt : Nat), wr.ranges Try.prog 25 (plainElem Try.prog 25) b1 w.heap.size c1 D1 left cnt ∧ Hid (∀ kl, left kl = true → Maps.has D1 kl = true) ∧ Hid (Below w.heap.size w wr)) (fun _ wr => wr.rangeLeft b1 w.heap.size)
  case atStart => exact ⟨_, _, hrg0, Lib.hid (fun _ h => h), k0⟩
  case round =>
    obtain ⟨left, cnt, hrg, HL, HB⟩ := hrel
    go_wp2_with (first
      | (at_next; refine wpList_next_ranges_ii _ rfl _ rfl 25 25 .u64 .u64 keysU Try.underlying25 Try.underlying25 b1 w.heap.size c1 _ _ _ rfl hrg ?_ ?_)
      | go_in)
    · intro hc0 hl0
      go_wp2_with fail
      go_ret
      exact ⟨rfl, HB.out⟩
    · intro x c w1 cnt1 hwx hwc hlx hat hrg1 hlt hg1 hs1 hen
      obtain ⟨k, rfl⟩ := num_of hwx
      obtain ⟨v, rfl⟩ := num_of hwc
      have hh1 := HL.out _ hlx
      have hf : f k = some v := by
        have h1 := V1.out.hasKey k
        rw [show klit k = Lit.int .u64 (k.toNat : Int) from rfl, hh1] at h1
        obtain ⟨v', hv'⟩ := Option.isSome_iff_exists.1 h1.symm
        have h2 := V1.out.at' k v' (.lit (.int .u64 0)) hv'
        rw [show klit k = Lit.int .u64 (k.toNat : Int) from rfl, hat] at h2
        rw [hv', kdat_inj (a := v) (b := v') h2]
      have hh2 : Maps.has D2 (.int .u64 (k.toNat : Int)) = true := by
        have h1 := V2.out.hasKey k
        rw [hf] at h1
        exact h1
      have hat2 : D2.atKey (.int .u64 (k.toNat : Int)) (.lit (.int .u64 0)) = .lit (.int .u64 (v.toNat : Int)) := V2.out.at' k v _ hf
      have HB1 := Lib.hid (HB.out.trans (show Below w.heap.size wr w1 from ⟨hg1.os, hg1.tape, hg1.output, hg1.size, fun q hq => hg1.block q (by have := HB.out.size; omega) (fun e => by have := Option.some.inj e; omega)⟩))
      have o2' : w1.ownsMap Try.prog 25 (plainElem Try.prog 25) b2 c2 D2 := by
        obtain ⟨es, clock, hb, rest⟩ := o2
        exact ⟨es, clock, (HB1.out.block b2 hb2).trans hb, rest⟩
      have HL1 := Lib.hid (show ∀ kl, (left kl && !kl.sameKey (.int .u64 (k.toNat : Int))) = true → Maps.has D1 kl = true from fun kl h => HL.out kl (by
        cases hl : left kl
        · rw [hl] at h; cases h
        · rfl))
      have hvv : ((v.toNat : Int) != (v.toNat : Int)) = false := by simp
      clear hh1 hat hf
      go_wp2_with (first
        | (at_lookup; refine wpList_lookup_own_ok_int _ rfl _ _ 45 rfl 25 25 .u64 keysU Try.underlying45 Try.underlying25 (zeroU _) b2 c2 D2 rfl o2' _ _ rfl (keyOf_int_mk Try.underlying25 hwx) ?_; intro cc hatc hwcc; rw [hat2] at hatc; simp only [DataW.lit.injEq, Lit.int.injEq, true_and] at hatc; subst hatc)
        | go_in)
      go_roundw
      case rel => exact ⟨_, cnt1, hrg1, HL1, HB1⟩
      case measure => rw [hrg1.left_eq, hrg.left_eq]; exact hlt
end Go.Proofs.Ytllopocekegljaa.No
