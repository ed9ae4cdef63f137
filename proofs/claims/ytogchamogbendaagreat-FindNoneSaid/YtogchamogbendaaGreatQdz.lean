import Derived.Test.YtogchamogbendaaGreatQdt
import Derived.Test.YtogchamogbendaaGreatQdy
import Derived.Test.YtogchamogbendaaGreatQdg
set_option maxRecDepth 100000
set_option linter.unusedVariables false
set_option linter.unusedSimpArgs false
namespace Go.Proofs.YtogchamogbendaaGreat.Bs
open Lib (hid)
open Go.RowKit Oct Mv Tl Pk Pl Go.Maps Go.ChangeMaps
open Lf (Nd Fit nodePage RowN ToldN)
open No (atR at_any)
theorem at_is {l : Bool} {ks vs : List UInt64} {k : UInt64} (h : (atR l ks vs k).2.1 = true) : (atR l ks vs k).1 < vs.length := by
 unfold atR at h ⊢
 by_cases q : No.Ok l ks vs
 ·rw [if_pos q] at h ⊢
  have hk : k ∈ ks := of_decide_eq_true h
  show (if l = false ∧ k ∉ ks then No.low ks k - 1 else No.low ks k) < vs.length
  rw [if_neg (fun z => z.2 hk), q.2.1]
  exact No.low_lt hk
 ·rw [if_neg q] at h
  cases h
noncomputable def getF (t : WR) (key : UInt64) : UInt64 × Bool × Nat :=
 if t.e ≠ 0 then (0, false, t.e) else if (atR t.l t.ks t.vs key).2.1 then (t.vs.getD (atR t.l t.ks t.vs key).1 0, true, 0) else (0, false, 0)
section
variable {Pr : Nat → Prop} {w w' : World} {A : Adr} {x : BS}
set_option maxHeartbeats 2000000 in
theorem get_of {b : Value} (root : Int) (key : UInt64) (t : WR) (hdn : Calls Tryz.prog 117 #[b, .int .i64 root, .int .u64 (key.toNat : Int)] w (WayOut t w)) (g : UInt64 × Bool × Nat) (hg : g = getF t key) :
  Calls Tryz.prog 53 #[b, .int .i64 root, .int .u64 (key.toNat : Int)] w fun e w' => e = .returned (.tuple #[.int .u64 (g.1.toNat : Int), .bool g.2.1, .int .i64 (g.2.2 : Nat)]) ∧ Below w.heap.size w w' := by
 have HDN := hid hdn
 have HG := hid hg
 clear hdn hg
 go_enter Tryz.func53, Tryz.ntmps53
 go_wp2_with fail
 refine HDN.out.mono ?_
 rintro e w1 ⟨K, k, V, v, rfl, hnd, B1, nK, nV⟩
 have HND := hid hnd
 have r9 := alloc_rowV w1 189 [.bool t.l, .slice K t.ks.length k, .slice V t.vs.length v, .int .i64 (t.high : Nat), .int .u64 (t.last.toNat : Int)]
 have b9 := (Below.refl w1.heap.size w1).alloc (Nat.le_refl _) (.cells #[.bool t.l, .slice K t.ks.length k, .slice V t.vs.length v, .int .i64 (t.high : Nat), .int .u64 (t.last.toNat : Int)] 189)
 have HB1 := hid B1
 clear hnd B1 nK nV
 go_upto_region 2 with (fail)
 obtain ⟨X, hX⟩ : ∃ X, X = w1.heap.size := ⟨_, rfl⟩
 have R9 := hid r9
 have HB9 := hid (HB1.out.trans (b9.mono HB1.out.size))
 have HND9 := hid (HND.out.below b9)
 rw [← hX] at R9 ⊢
 clear r9 b9 hX HND
 simp only [List.toArray] at *
 generalize w1.alloc (.cells #[.bool t.l, .slice K t.ks.length k, .slice V t.vs.length v, .int .i64 (t.high : Nat), .int .u64 (t.last.toNat : Int)] 189) = w2 at *
 by_cases he : t.e = 0
 ·have heb : ((t.e : Nat) : Int) = 0 := by omega
  rw [heb]
  have c0 := R9.out.cellAt (i := 0) rfl
  have c1 := R9.out.cellAt (i := 1) rfl
  have c2 := R9.out.cellAt (i := 2) rfl
  go_wp2_with fail
  refine (at_any t.l HND9.out key _ rfl).mono ?_
  rintro e w3 ⟨rfl, kz⟩
  have HND3 := hid (HND9.out.below kz)
  have R3 := hid (R9.out.below R9.out.lt kz)
  have HB3 := hid (HB9.out.trans (kz.mono HB9.out.size))
  clear kz HND9 R9 HB9 c0 c1 c2
  cases his : (atR t.l t.ks t.vs key).2.1 with
  | true =>
   have hlt := at_is his
   obtain ⟨a, ha⟩ : ∃ a, a = (atR t.l t.ks t.vs key).1 := ⟨_, rfl⟩
   have HG2 := hid (show g = (t.vs.getD a 0, true, 0) from by rw [HG.out]; unfold getF; rw [if_neg (fun q => q he), if_pos his, ha])
   rw [← ha] at hlt ⊢
   obtain ⟨bV, oV, eV, hV⟩ : ∃ b o, V = some ⟨b, o, none⟩ ∧ Lf.HasN w3 b o t.vs := by
    rcases HND3.out.vs with q | q
    ·rw [q] at hlt
     simp at hlt
    ·exact q
   subst eV
   have hcell := hV a hlt
   obtain ⟨vv, hvv⟩ : ∃ vv, vv = t.vs[a] := ⟨_, rfl⟩
   rw [← hvv] at hcell
   have HV := hid (show t.vs.getD a 0 = vv from by rw [hvv, List.getD_eq_getElem?_getD, List.getElem?_eq_getElem hlt]; rfl)
   have hai : (a : Int) < (t.vs.length : Int) := by omega
   have ha0 : (0 : Int) ≤ (a : Int) := by omega
   have c2 := R3.out.cellAt (i := 2) rfl
   clear ha hvv hV his
   go_wp2_with fail
   refine bodyPost_ret (v := _) (res_three rfl _) rfl ⟨?_, HB3.out⟩
   rw [HG2.out, HV.out]
   rfl
  | false =>
   have HG2 := hid (show g = (0, false, 0) from by rw [HG.out]; unfold getF; rw [if_neg (fun q => q he), if_neg (by rw [his]; decide)])
   clear his
   go_wp2_with fail
   refine bodyPost_ret (v := _) (res_three rfl _) rfl ⟨?_, HB3.out⟩
   rw [HG2.out]
   rfl
 ·have hei : ¬ (((t.e : Nat) : Int) = 0) := by omega
  go_wp2_with fail
  refine bodyPost_ret (v := _) (res_three rfl _) rfl ⟨?_, HB9.out⟩
  rw [HG.out]
  unfold getF
  rw [if_pos he]
  rfl
set_option maxHeartbeats 1000000 in
theorem height_of {b : Value} (root : Int) (t : WR) (hdn : Calls Tryz.prog 117 #[b, .int .i64 root, .int .u64 0] w (WayOut t w)) :
  Calls Tryz.prog 56 #[b, .int .i64 root] w fun e w' => e = .returned (.tuple #[.int .i64 (t.high : Nat), .int .i64 (t.e : Nat)]) ∧ Below w.heap.size w w' := by
 have HDN := hid hdn
 clear hdn
 go_enter Tryz.func56, Tryz.ntmps56
 go_wp2_with fail
 refine HDN.out.mono ?_
 rintro e w1 ⟨K, k, V, v, rfl, hnd, B1, nK, nV⟩
 have r9 := alloc_rowV w1 189 [.bool t.l, .slice K t.ks.length k, .slice V t.vs.length v, .int .i64 (t.high : Nat), .int .u64 (t.last.toNat : Int)]
 have b9 := (Below.refl w1.heap.size w1).alloc (Nat.le_refl _) (.cells #[.bool t.l, .slice K t.ks.length k, .slice V t.vs.length v, .int .i64 (t.high : Nat), .int .u64 (t.last.toNat : Int)] 189)
 have HB1 := hid B1
 clear hnd B1 nK nV
 go_upto_region 2 with (fail)
 obtain ⟨X, hX⟩ : ∃ X, X = w1.heap.size := ⟨_, rfl⟩
 have R9 := hid r9
 have HB9 := hid (HB1.out.trans (b9.mono HB1.out.size))
 rw [← hX] at R9 ⊢
 clear r9 b9 hX
 simp only [List.toArray] at *
 generalize w1.alloc (.cells #[.bool t.l, .slice K t.ks.length k, .slice V t.vs.length v, .int .i64 (t.high : Nat), .int .u64 (t.last.toNat : Int)] 189) = w2 at *
 have c3 := R9.out.cellAt (i := 3) rfl
 go_wp2_with fail
 go_ret2
 exact ⟨rfl, HB9.out⟩
end
end Go.Proofs.YtogchamogbendaaGreat.Bs
namespace Go.Proofs.YtogchamogbendaaGreat.Bs
open Lib (hid)
open Go.RowKit Oct Mv Tl Pk Pl Go.Maps Go.ChangeMaps
open Lf (Nd Fit nodePage RowN ToldN)
open No (atR at_any)
set_option maxHeartbeats 2000000 in
theorem way_nay (v : Value) (w : World) (hv : BNay w v) (root : Int) (key : UInt64) :
  Calls Tryz.prog 117 #[v, .int .i64 root, .int .u64 (key.toNat : Int)] w (WayOut (noWay 1) w) := by
 have hz := wcells_zero
 have r0 := alloc_rowV w 189 [.bool false, .slice none 0 0, .slice none 0 0, .int .i64 0, .int .u64 0]
 have b0 := (Below.refl w.heap.size w).alloc (Nat.le_refl _) (.cells #[.bool false, .slice none 0 0, .slice none 0 0, .int .i64 0, .int .u64 0] 189)
 have HV := hid (hv.below b0)
 clear hv
 go_enter Tryz.func117, Tryz.ntmps117
 go_upto_region 1 with (fail)
 obtain ⟨X6, hX6⟩ : ∃ X, X = w.heap.size := ⟨_, rfl⟩
 have R0 := hid r0
 have HB0 := hid b0
 rw [← hX6] at R0 ⊢
 have HX6 := hid hX6
 clear hz r0 b0 hX6
 simp only [List.toArray] at *
 generalize w.alloc (.cells #[.bool false, .slice none 0 0, .slice none 0 0, .int .i64 0, .int .u64 0] 189) = w1 at *
 by_cases h0 : root = 0
 ·subst h0
  go_wp2_with fail
  refine (blocks_nay _ _ HV.out).mono ?_
  rintro e w' ⟨rfl, rfl⟩
  go_upto_region 5 with (fail)
  go_loopw [27, 8, 9] (fun i a en wr => i = .int .i64 0 ∧ a = .int .i64 0 ∧ en = .int .u64 (maxU.toNat : Int) ∧ wr = w1) (fun _ _ _ _ => 0)
  case atStart => exact ⟨rfl, rfl, rfl, rfl⟩
  case round =>
   obtain ⟨rfl, rfl, rfl, rfl⟩ := hrel
   go_wp2_with fail
   refine (fnode_nay _ _ _ HV.out).mono ?_
   rintro e w2 ⟨rfl, kz⟩
   have HB2 := hid (HB0.out.trans (kz.mono HB0.out.size))
   have R2 := hid (R0.out.below R0.out.lt kz)
   clear kz
   have r3 := alloc_rowV w2 107 [.bool false, .slice none 0 0, .slice none 0 0]
   have b3 := (Below.refl w2.heap.size w2).alloc (Nat.le_refl _) (.cells #[.bool false, .slice none 0 0, .slice none 0 0] 107)
   go_upto_region 8 with (fail)
   obtain ⟨X11, hX11⟩ : ∃ X, X = w2.heap.size := ⟨_, rfl⟩
   have R4 := hid r3
   have HB3 := hid (HB2.out.trans (b3.mono HB2.out.size))
   have R3 := hid (R2.out.below R2.out.lt b3)
   rw [← hX11] at R4 ⊢
   clear r3 b3 hX11 HB2 R2
   simp only [List.toArray] at *
   generalize w2.alloc (.cells #[.bool false, .slice none 0 0, .slice none 0 0] 107) = w3 at *
   go_wp2_with (refine wayStore rfl (.tmp 6) (.tmp 38) rfl X6 false none 0 0 none 0 0 0 0 _ _ _ _ _ rfl rfl R3.out ?_; intro cs HC)
   refine bodyPost_ret (v := _) (fres_way rfl _ rfl HC) rfl ⟨none, 0, none, 0, rfl, Lf.nd_nil _, HB3.out.trans (frow_below cs (by rw [HX6.out]; exact Nat.le_refl _)), newA_none _, newA_none _⟩
 ·go_upto_region 4 with (fail)
  go_upto_region 5 with (fail)
  go_loopw [27, 8, 9] (fun i a en wr => i = .int .i64 0 ∧ a = .int .i64 root ∧ en = .int .u64 (maxU.toNat : Int) ∧ wr = w1) (fun _ _ _ _ => 0)
  case atStart => exact ⟨rfl, rfl, rfl, rfl⟩
  case round =>
   obtain ⟨rfl, rfl, rfl, rfl⟩ := hrel
   go_wp2_with fail
   refine (fnode_nay _ _ _ HV.out).mono ?_
   rintro e w2 ⟨rfl, kz⟩
   have HB2 := hid (HB0.out.trans (kz.mono HB0.out.size))
   have R2 := hid (R0.out.below R0.out.lt kz)
   clear kz
   have r3 := alloc_rowV w2 107 [.bool false, .slice none 0 0, .slice none 0 0]
   have b3 := (Below.refl w2.heap.size w2).alloc (Nat.le_refl _) (.cells #[.bool false, .slice none 0 0, .slice none 0 0] 107)
   go_upto_region 8 with (fail)
   obtain ⟨X11, hX11⟩ : ∃ X, X = w2.heap.size := ⟨_, rfl⟩
   have R4 := hid r3
   have HB3 := hid (HB2.out.trans (b3.mono HB2.out.size))
   have R3 := hid (R2.out.below R2.out.lt b3)
   rw [← hX11] at R4 ⊢
   clear r3 b3 hX11 HB2 R2
   simp only [List.toArray] at *
   generalize w2.alloc (.cells #[.bool false, .slice none 0 0, .slice none 0 0] 107) = w3 at *
   go_wp2_with (refine wayStore rfl (.tmp 6) (.tmp 38) rfl X6 false none 0 0 none 0 0 0 0 _ _ _ _ _ rfl rfl R3.out ?_; intro cs HC)
   refine bodyPost_ret (v := _) (fres_way rfl _ rfl HC) rfl ⟨none, 0, none, 0, rfl, Lf.nd_nil _, HB3.out.trans (frow_below cs (by rw [HX6.out]; exact Nat.le_refl _)), newA_none _, newA_none _⟩
theorem right_low {b : Value} {w : World} (root : Int) (t : WR) (hdn : Calls Tryz.prog 117 #[b, .int .i64 root, .int .u64 0] w (WayOut t w)) (hh : t.high = 0) :
  Calls Tryz.prog 52 #[b, .int .i64 root] w fun e w' => e = .returned (.bool (decide (t.e = 0))) ∧ Below w.heap.size w w' := by
 have HDN := hid (height_of root t hdn)
 rw [hh] at HDN
 have HH := hid hh
 clear hdn hh
 go_enter Tryz.func52, Tryz.ntmps52
 go_wp2_with fail
 refine HDN.out.mono ?_
 rintro e w1 ⟨rfl, B1⟩
 by_cases he : t.e = 0
 ·have heb : ((t.e : Nat) : Int) = 0 := by omega
  rw [heb]
  go_wp2_with fail
  go_ret
  exact ⟨by rw [decide_eq_true he]; rfl, B1⟩
 ·have hei : ¬ (((t.e : Nat) : Int) = 0) := by omega
  have hef : (((t.e : Nat) : Int) == 0) = false := by simpa using he
  go_wp2_with fail
  go_ret
  exact ⟨by rw [decide_eq_false he]; rfl, B1⟩
end Go.Proofs.YtogchamogbendaaGreat.Bs
namespace Go.Proofs.YtogchamogbendaaGreat.Bs
open Go.RowKit Oct Mv Tl Pk Pl Go.Maps Go.ChangeMaps
open Lf (Nd Fit nodePage RowN ToldN Rises)
open No (atR at_any low Ok)
def fitsR (l : Bool) (ks : List UInt64) (lv f : Nat) (fr tt : UInt64) : Bool :=
 decide (l = decide (lv = 1)) && decide (f ≤ ks.length) && decide (fr.toNat ≤ (ks.getD 0 0).toNat) && decide ((ks.getD (ks.length - 1) 0).toNat ≤ tt.toNat)
abbrev Itm := UInt64 × UInt64
theorem low_spec : ∀ (ks : List UInt64) (k : UInt64), Rises ks → ∀ t, t < ks.length → ((ks.getD t 0).toNat < k.toNat ↔ t < low ks k)
 | [], _, _, t, ht => by cases ht
 | a :: r, k, hr, t, ht => by
  have h1 : ∀ y ∈ r, a.toNat < y.toNat := (List.pairwise_cons.1 hr).1
  have h2 : Rises r := (List.pairwise_cons.1 hr).2
  have hlow : low (a :: r) k = low r k + if a.toNat < k.toNat then 1 else 0 := by
   unfold low
   rw [List.countP_cons]
   simp
  by_cases ha : a.toNat < k.toNat
  ·rw [if_pos ha] at hlow
   cases t with
   | zero => rw [hlow]; exact ⟨fun _ => by omega, fun _ => ha⟩
   | succ t =>
    have := low_spec r k h2 t (by simpa using ht)
    rw [hlow]
    rw [show (a :: r).getD (t + 1) 0 = r.getD t 0 from rfl]
    omega
  ·rw [if_neg ha] at hlow
   have h0 : low r k = 0 := by
    unfold low
    rw [List.countP_eq_zero]
    intro y hy
    have := h1 y hy
    simp
    omega
   rw [hlow, h0]
   cases t with
   | zero => exact ⟨fun q => absurd q ha, fun q => by omega⟩
   | succ t =>
    rw [show (a :: r).getD (t + 1) 0 = r.getD t 0 from rfl]
    have hm : r.getD t 0 ∈ r := by
     have ht' : t < r.length := by simpa using ht
     rw [List.getD_eq_getElem?_getD, List.getElem?_eq_getElem ht']
     exact List.getElem_mem ht'
    have := h1 _ hm
    exact ⟨fun q => by omega, fun q => by omega⟩
theorem getD_mem' {α : Type} {l : List α} {i : Nat} {d : α} (h : i < l.length) : l.getD i d ∈ l := by
 rw [List.getD_eq_getElem?_getD, List.getElem?_eq_getElem h]
 exact List.getElem_mem h
theorem rises_lt {ks : List UInt64} (h : Rises ks) {i j : Nat} (hij : i < j) (hj : j < ks.length) : (ks.getD i 0).toNat < (ks.getD j 0).toNat := by
 have := List.pairwise_iff_getElem.1 h i j (by omega) hj hij
 rw [List.getD_eq_getElem?_getD, List.getD_eq_getElem?_getD, List.getElem?_eq_getElem hj, List.getElem?_eq_getElem (by omega)]
 exact this
theorem at_spec {ks vs : List UInt64} (h : Fit false ks vs) (key : UInt64) : ((atR false ks vs key).1 = 0 ∨ (ks.getD (atR false ks vs key).1 0).toNat ≤ key.toNat) ∧ ∀ j, (atR false ks vs key).1 < j → j < ks.length → key.toNat < (ks.getD j 0).toNat := by
 have hr := h.2.2.1
 have h0 : 0 < ks.length := by rcases h.2.2.2 with q | q; cases q; exact q.1
 have hok : Ok false ks vs := ⟨h.1, h.2.1, h.2.2.1, .inr h0⟩
 have hs := low_spec ks key hr
 have hle : low ks key ≤ ks.length := List.countP_le_length
 unfold atR
 rw [if_pos hok]
 show ((if false = false ∧ key ∉ ks then low ks key - 1 else low ks key) = 0 ∨ _) ∧ _
 by_cases hk : key ∈ ks
 ·rw [if_neg (fun q => q.2 hk)]
  obtain ⟨i, hi, he⟩ := List.mem_iff_getElem.1 hk
  have hg : ks.getD i 0 = key := by rw [List.getD_eq_getElem?_getD, List.getElem?_eq_getElem hi]; exact he
  have e1 : ¬ i < low ks key := fun q => by have := (hs i hi).2 q; rw [hg] at this; omega
  have hl : low ks key < ks.length := by omega
  have e2 : low ks key = i := by
   rcases Nat.lt_or_ge (low ks key) i with q | q
   ·have k1 := rises_lt hr q hi
    rw [hg] at k1
    exact absurd ((hs _ hl).1 k1) (by omega)
   ·omega
  refine ⟨.inr ?_, fun j hj hjl => ?_⟩
  ·show (ks.getD (low ks key) 0).toNat ≤ key.toNat
   rw [e2, hg]; exact Nat.le_refl _
  ·show key.toNat < (ks.getD j 0).toNat
   have := rises_lt hr (i := i) (j := j) (by show i < j; have : low ks key < j := hj; omega) hjl
   rw [hg] at this
   exact this
 ·rw [if_pos ⟨rfl, hk⟩]
  refine ⟨?_, fun j hj hjl => ?_⟩
  ·rcases Nat.eq_zero_or_pos (low ks key) with q | q
   ·exact .inl (by omega)
   ·refine .inr ?_
    show (ks.getD (low ks key - 1) 0).toNat ≤ key.toNat
    exact Nat.le_of_lt ((hs (low ks key - 1) (by omega)).2 (by omega))
  ·show key.toNat < (ks.getD j 0).toNat
   have hj' : low ks key - 1 < j := hj
   have k1 : ¬ (ks.getD j 0).toNat < key.toNat := fun q => by have := (hs j hjl).1 q; omega
   have k2 : (ks.getD j 0).toNat ≠ key.toNat := fun q => by
    have : ks.getD j 0 = key := UInt64.toNat_inj.1 q
    exact hk (this ▸ getD_mem' hjl)
   omega
def Ris (l : List Itm) : Prop := l.Pairwise (fun a b => a.1.toNat < b.1.toNat)
theorem toNat_pred {k : UInt64} (h : 1 ≤ k.toNat) : (k - 1).toNat = k.toNat - 1 := by
 rw [UInt64.toNat_sub_of_le]
 ·rfl
 ·exact UInt64.le_iff_toNat_le.2 h
noncomputable def rightF (x : BS) (n : Nat) : Nat → Int → Nat → UInt64 → UInt64 → Bool
 | 0, _, _, _, _ => false
 | lv + 1, z, f, fr, tt => decide ((nodeR x n z).e = 0) && (fitsR (nodeR x n z).l (nodeR x n z).ks (lv + 1) f fr tt && ((nodeR x n z).l || (List.range (nodeR x n z).vs.length).all fun i =>
   rightF x n lv (IntKind.i64.wrap (((nodeR x n z).vs.getD i 0).toNat : Int)) 3 ((nodeR x n z).ks.getD i 0) (lastR (nodeR x n z).ks i tt)))
end Go.Proofs.YtogchamogbendaaGreat.Bs
namespace Go.Proofs.YtogchamogbendaaGreat.Bs
open Lib (hid)
open Go.RowKit Oct Mv Tl Pk Pl Go.Maps Go.ChangeMaps
open Lf (Nd Fit nodePage RowN ToldN)
def Vl (b : Nat → Bool) (z : Nat → Value) (vl : List Value) : Prop := (∀ i, i < 32 → b i = true → ∀ v, vl.getD i undef = v → z (9 + i) = v) ∧ (b 32 = true → ∀ v, vl.getD 32 undef = v → z 4 = v)
theorem Vl.at {b : Nat → Bool} {z : Nat → Value} {vl : List Value} (h : Vl b z vl) (i : Nat) (hb : b i = true) (v : Value) (hv : vl.getD i undef = v) (hi : i < 32 := by decide) : z (9 + i) = v := h.1 i hi hb v hv
theorem Vl.up0 {b : Nat → Bool} {z : Nat → Value} {vl : List Value} (h : Vl b z vl) (i : Nat) (v : Value) (hv : vl.getD i undef = v) (hi : i < 32 := by decide) : Vl (Inv.mark b i) (fun s => if s = 9 + i then v else z s) vl := by
 refine ⟨fun j hj e u hu => ?_, fun e u hu => ?_⟩
 ·show (if 9 + j = 9 + i then v else _) = u
  by_cases q : j = i
  ·subst q
   rw [if_pos rfl]
   exact hv.symm.trans hu
  rw [if_neg (by omega)]
  exact h.1 j hj (by unfold Inv.mark at e; rw [beq_eq_false_iff_ne.mpr q, Bool.false_or] at e; exact e) u hu
 ·show (if 4 = 9 + i then v else _) = u
  rw [if_neg (by omega)]
  exact h.2 (by unfold Inv.mark at e; rw [beq_eq_false_iff_ne.mpr (show 32 ≠ i by omega), Bool.false_or] at e; exact e) u hu
theorem Vl.up1 {b : Nat → Bool} {z : Nat → Value} {vl : List Value} (h : Vl b z vl) (i : Nat) (d0 : Nat) (v : Value) (hv : vl.getD i undef = v) (x0 : Value) (hxd0 : vl.getD d0 undef = x0) (hi : i < 32 := by decide) (hd0 : d0 < 32 := by decide) : Vl (Inv.mark b i) (fun s => if s = 9 + i then v else if s = 9 + d0 then x0 else z s) vl := by
 refine ⟨fun j hj e u hu => ?_, fun e u hu => ?_⟩
 ·show (if 9 + j = 9 + i then v else _) = u
  by_cases q : j = i
  ·subst q
   rw [if_pos rfl]
   exact hv.symm.trans hu
  rw [if_neg (by omega)]
  by_cases qd0 : j = d0
  ·subst qd0
   rw [if_pos rfl]
   exact hxd0.symm.trans hu
  rw [if_neg (by omega)]
  exact h.1 j hj (by unfold Inv.mark at e; rw [beq_eq_false_iff_ne.mpr q, Bool.false_or] at e; exact e) u hu
 ·show (if 4 = 9 + i then v else _) = u
  rw [if_neg (by omega)]
  rw [if_neg (by omega)]
  exact h.2 (by unfold Inv.mark at e; rw [beq_eq_false_iff_ne.mpr (show 32 ≠ i by omega), Bool.false_or] at e; exact e) u hu
theorem Vl.up2 {b : Nat → Bool} {z : Nat → Value} {vl : List Value} (h : Vl b z vl) (i : Nat) (d0 : Nat) (d1 : Nat) (v : Value) (hv : vl.getD i undef = v) (x0 : Value) (hxd0 : vl.getD d0 undef = x0) (x1 : Value) (hxd1 : vl.getD d1 undef = x1) (hi : i < 32 := by decide) (hd0 : d0 < 32 := by decide) (hd1 : d1 < 32 := by decide) : Vl (Inv.mark b i) (fun s => if s = 9 + i then v else if s = 9 + d0 then x0 else if s = 9 + d1 then x1 else z s) vl := by
 refine ⟨fun j hj e u hu => ?_, fun e u hu => ?_⟩
 ·show (if 9 + j = 9 + i then v else _) = u
  by_cases q : j = i
  ·subst q
   rw [if_pos rfl]
   exact hv.symm.trans hu
  rw [if_neg (by omega)]
  by_cases qd0 : j = d0
  ·subst qd0
   rw [if_pos rfl]
   exact hxd0.symm.trans hu
  rw [if_neg (by omega)]
  by_cases qd1 : j = d1
  ·subst qd1
   rw [if_pos rfl]
   exact hxd1.symm.trans hu
  rw [if_neg (by omega)]
  exact h.1 j hj (by unfold Inv.mark at e; rw [beq_eq_false_iff_ne.mpr q, Bool.false_or] at e; exact e) u hu
 ·show (if 4 = 9 + i then v else _) = u
  rw [if_neg (by omega)]
  rw [if_neg (by omega)]
  rw [if_neg (by omega)]
  exact h.2 (by unfold Inv.mark at e; rw [beq_eq_false_iff_ne.mpr (show 32 ≠ i by omega), Bool.false_or] at e; exact e) u hu
theorem Vl.up3 {b : Nat → Bool} {z : Nat → Value} {vl : List Value} (h : Vl b z vl) (i : Nat) (d0 : Nat) (d1 : Nat) (d2 : Nat) (v : Value) (hv : vl.getD i undef = v) (x0 : Value) (hxd0 : vl.getD d0 undef = x0) (x1 : Value) (hxd1 : vl.getD d1 undef = x1) (x2 : Value) (hxd2 : vl.getD d2 undef = x2) (hi : i < 32 := by decide) (hd0 : d0 < 32 := by decide) (hd1 : d1 < 32 := by decide) (hd2 : d2 < 32 := by decide) : Vl (Inv.mark b i) (fun s => if s = 9 + i then v else if s = 9 + d0 then x0 else if s = 9 + d1 then x1 else if s = 9 + d2 then x2 else z s) vl := by
 refine ⟨fun j hj e u hu => ?_, fun e u hu => ?_⟩
 ·show (if 9 + j = 9 + i then v else _) = u
  by_cases q : j = i
  ·subst q
   rw [if_pos rfl]
   exact hv.symm.trans hu
  rw [if_neg (by omega)]
  by_cases qd0 : j = d0
  ·subst qd0
   rw [if_pos rfl]
   exact hxd0.symm.trans hu
  rw [if_neg (by omega)]
  by_cases qd1 : j = d1
  ·subst qd1
   rw [if_pos rfl]
   exact hxd1.symm.trans hu
  rw [if_neg (by omega)]
  by_cases qd2 : j = d2
  ·subst qd2
   rw [if_pos rfl]
   exact hxd2.symm.trans hu
  rw [if_neg (by omega)]
  exact h.1 j hj (by unfold Inv.mark at e; rw [beq_eq_false_iff_ne.mpr q, Bool.false_or] at e; exact e) u hu
 ·show (if 4 = 9 + i then v else _) = u
  rw [if_neg (by omega)]
  rw [if_neg (by omega)]
  rw [if_neg (by omega)]
  rw [if_neg (by omega)]
  exact h.2 (by unfold Inv.mark at e; rw [beq_eq_false_iff_ne.mpr (show 32 ≠ i by omega), Bool.false_or] at e; exact e) u hu
theorem Vl.end1 {b : Nat → Bool} {z : Nat → Value} {vl : List Value} (h : Vl b z vl) (d0 : Nat) (v : Value) (hv : vl.getD 32 undef = v) (x0 : Value) (hxd0 : vl.getD d0 undef = x0) (hd0 : d0 < 32 := by decide) : Vl (Inv.mark b 32) (fun s => if s = 4 then v else if s = 9 + d0 then x0 else z s) vl := by
 refine ⟨fun j hj e u hu => ?_, fun e u hu => ?_⟩
 ·show (if 9 + j = 4 then v else _) = u
  rw [if_neg (by omega)]
  by_cases qd0 : j = d0
  ·subst qd0
   rw [if_pos rfl]
   exact hxd0.symm.trans hu
  rw [if_neg (by omega)]
  exact h.1 j hj (by unfold Inv.mark at e; rw [beq_eq_false_iff_ne.mpr (show j ≠ 32 by omega), Bool.false_or] at e; exact e) u hu
 ·show (if (4 : Nat) = 4 then v else _) = u
  rw [if_pos rfl]
  exact hv.symm.trans hu
set_option maxHeartbeats 10000000 in
theorem fits_any (l : Bool) {w : World} {K V : Option Addr} {n c m d : Nat} {ks vs : List UInt64} (h : Nd w K n c V m d ks vs) (lv f : Nat) (fr tt : UInt64) (hl : lv ≤ 8) (hf : 1 ≤ f ∧ f ≤ 7) (hn : n ≤ 7) (r : Bool) (hr : r = fitsR l ks lv f fr tt) :
  Calls Tryz.prog 169 #[.agg #[.int .i64 (lv : Int), .int .i64 (f : Int), .int .u64 (fr.toNat : Int), .int .u64 (tt.toNat : Int)], .agg #[.bool l, .slice K n c, .slice V m d]] w fun e w' => e = .returned (.bool r) ∧ Below w.heap.size w w' := by
 obtain ⟨X2, hX2⟩ : ∃ X, X = w.heap.size := ⟨_, rfl⟩
 obtain ⟨X3, hX3⟩ : ∃ X, X = w.heap.size + 1 := ⟨_, rfl⟩
 have r2 := alloc_rowV w 187 [.int .i64 (lv : Int), .int .i64 (f : Int), .int .u64 (fr.toNat : Int), .int .u64 (tt.toNat : Int)]
 have b2 := (Below.refl w.heap.size w).alloc (Nat.le_refl _) (.cells #[.int .i64 (lv : Int), .int .i64 (f : Int), .int .u64 (fr.toNat : Int), .int .u64 (tt.toNat : Int)] 187)
 have r3 := alloc_rowV (w.alloc (.cells #[.int .i64 (lv : Int), .int .i64 (f : Int), .int .u64 (fr.toNat : Int), .int .u64 (tt.toNat : Int)] 187)) 107 [.bool l, .slice K n c, .slice V m d]
 rw [show (w.alloc (.cells #[.int .i64 (lv : Int), .int .i64 (f : Int), .int .u64 (fr.toNat : Int), .int .u64 (tt.toNat : Int)] 187)).heap.size = X3 by rw [hX3]; exact Array.size_push ..] at r3
 have b3 := (Below.refl (w.alloc (.cells #[.int .i64 (lv : Int), .int .i64 (f : Int), .int .u64 (fr.toNat : Int), .int .u64 (tt.toNat : Int)] 187)).heap.size (w.alloc (.cells #[.int .i64 (lv : Int), .int .i64 (f : Int), .int .u64 (fr.toNat : Int), .int .u64 (tt.toNat : Int)] 187))).alloc (Nat.le_refl _) (.cells #[.bool l, .slice K n c, .slice V m d] 107)
 have R2 := hid (r2.below r2.lt b3)
 have R3 := hid r3
 have HB := hid (b2.trans (b3.mono b2.size))
 have HND := hid (h.below (b2.trans (b3.mono b2.size)))
 have HX := hid (And.intro hX2 hX3)
 have HR := hid hr
 have HKL := hid h.kl
 clear r2 b2 r3 b3 h hr
 go_enter Tryz.func169, Tryz.ntmps169
 go_upto_region 2 with (fail)
 rw [← hX3, ← hX2]
 rw [← hX2] at R2
 clear hX2 hX3
 simp only [List.toArray] at *
 generalize (w.alloc (.cells #[.int .i64 (lv : Int), .int .i64 (f : Int), .int .u64 (fr.toNat : Int), .int .u64 (tt.toNat : Int)] 187)).alloc (.cells #[.bool l, .slice K n c, .slice V m d] 107) = w2 at *
 obtain ⟨p, hp⟩ : ∃ p, ((lv : Int) == 1) = p := ⟨_, rfl⟩
 have HP := hid hp
 have HPd := hid (show p = decide (lv = 1) by
  rw [← hp]
  by_cases z : lv = 1
  ·subst z; rfl
  ·rw [decide_eq_false z]; exact beq_eq_false_iff_ne.mpr (by omega))
 clear hp
 by_cases q1 : l = p
 ·have D1 := hid (show (l == p) = true from beq_iff_eq.mpr q1)
  have q1' : l = decide (lv = 1) := q1.trans HPd.out
  by_cases q2 : f ≤ n
  ·have D2 := hid (show (f : Int) ≤ (n : Int) by omega)
   have H0 := hid (show 0 < n by omega)
   have H0i := hid (show (0 : Int) < (n : Int) by omega)
   obtain ⟨bK, oK, rfl, hH⟩ : ∃ b o, K = some ⟨b, o, none⟩ ∧ Lf.HasN w2 b o ks := by
    rcases HND.out.ks with q | q
    ·have := HKL.out; rw [q] at this; simp at this; omega
    ·exact q
   have HH := hid hH
   obtain ⟨y, hy⟩ : ∃ y, ks.getD 0 0 = y := ⟨_, rfl⟩
   obtain ⟨u, hu⟩ : ∃ u, ks.getD (n - 1) 0 = u := ⟨_, rfl⟩
   have HY := hid (show ks[0]'(by rw [HKL.out]; exact H0.out) = y by rw [← hy, List.getD_eq_getElem?_getD, List.getElem?_eq_getElem (by rw [HKL.out]; exact H0.out)]; rfl)
   have HU := hid (show ks[n - 1]'(by rw [HKL.out]; have := H0.out; omega) = u by rw [← hu, List.getD_eq_getElem?_getD, List.getElem?_eq_getElem (by rw [HKL.out]; have := H0.out; omega)]; rfl)
   have HR2 := hid (show r = (decide (fr.toNat ≤ y.toNat) && decide (u.toNat ≤ tt.toNat)) by rw [HR.out]; unfold fitsR; rw [HKL.out, decide_eq_true q1', decide_eq_true q2, hy, hu]; rfl)
   have G2 := hid (show ((n - 1 : Nat) : Int) < (n : Int) ∧ (0 : Int) ≤ ((n - 1 : Nat) : Int) by omega)
   have G1 := hid (show IntKind.i64.wrap ((n : Int) - 1) = ((n - 1 : Nat) : Int) by rw [show (n : Int) - 1 = ((n - 1 : Nat) : Int) by omega]; exact wrap_i64 (by omega) (by omega))
   clear hH hy hu HR q1 q1' q2
   by_cases q3 : fr.toNat ≤ y.toNat
   ·have D3 := hid (show (fr.toNat : Int) ≤ (y.toNat : Int) by omega)
    obtain ⟨q4, hq4⟩ : ∃ q, decide (u.toNat ≤ tt.toNat) = q := ⟨_, rfl⟩
    have D4 := hid (show decide ((u.toNat : Int) ≤ (tt.toNat : Int)) = q4 ∧ decide (u.toNat ≤ tt.toNat) = q4 from ⟨by rw [← hq4]; exact decide_eq_decide.2 (by omega), hq4⟩)
    have HZ := hid (show r = q4 by rw [HR2.out, decide_eq_true q3, hq4]; rfl)
    clear q3 hq4 HR2 HND
    refine Inv2.wp_region_inv (fun b a wy => ∃ z : Nat → Value, a = ⟨#[Value.agg #[Value.int IntKind.i64 ↑lv, Value.int IntKind.i64 ↑f, Value.int IntKind.u64 ↑fr.toNat, Value.int IntKind.u64 ↑tt.toNat], Value.agg #[Value.bool l, Value.slice (some ⟨bK, oK, none⟩) n c, Value.slice V m d], Value.pointer (some ⟨X2, 0, none⟩), Value.pointer (some ⟨X3, 0, none⟩), z 4, Value.int IntKind.i64 ↑n, Value.pointer (some ⟨X3, 1, none⟩), Value.slice (some ⟨bK, oK, none⟩) n c, Value.int IntKind.i64 ↑n, z 9, z 10, z 11, z 12, z 13, z 14, z 15, z 16, z 17, z 18, z 19, z 20, z 21, z 22, z 23, z 24, z 25, z 26, z 27, z 28, z 29, z 30, z 31, z 32, z 33, z 34, z 35, z 36, z 37, z 38, z 39, z 40], []⟩ ∧ Hid (Vl b z [.pointer (some ⟨X3, 0, none⟩), .bool l, .pointer (some ⟨X2, 0, none⟩), .int .i64 (lv : Int), .bool p, .bool true, .bool true, Value.int IntKind.i64 ↑n, .pointer (some ⟨X2, 1, none⟩), .int .i64 (f : Int), .bool true, .bool true, .bool true, .pointer (some ⟨X3, 1, none⟩), .slice (some ⟨bK, oK, none⟩) n c, .pointer (some ⟨bK, oK, none⟩), .int .u64 (y.toNat : Int), .pointer (some ⟨X2, 2, none⟩), .int .u64 (fr.toNat : Int), .bool true, .bool true, .bool true, .pointer (some ⟨X3, 1, none⟩), .slice (some ⟨bK, oK, none⟩) n c, Value.int IntKind.i64 ↑n, .int .i64 ((n - 1 : Nat) : Int), .pointer (some ⟨bK, oK + (n - 1), none⟩), .int .u64 (u.toNat : Int), .pointer (some ⟨X2, 3, none⟩), .int .u64 (tt.toNat : Int), .bool q4, .bool q4, .bool q4]) ∧ Hid (Below w2.heap.size w2 wy)) (by kernel_rfl) (by kernel_rfl) ?startE ?stepsE ?doneE
    case startE =>
     intro b hb
     refine ⟨fun s => if s = 4 then Value.bool false else undef, rfl, hid ⟨fun i hi e => (by rw [hb i (by show i < 33; omega)] at e; cases e), fun e => (by rw [hb 32 (by decide)] at e; cases e)⟩, hid ((show Still w2 w2.drew from ⟨rfl, rfl, rfl, rfl⟩).below _)⟩
    case stepsE =>
     refine ⟨?_, ?_, ?_, ?_, ?_, ?_, ?_, ?_, ?_, ?_, ?_, ?_, ?_, ?_, ?_, ?_, ?_, ?_, ?_, ?_, ?_, ?_, ?_, ?_, ?_, ?_, ?_, ?_, ?_, ?_, ?_, ?_, ?_, trivial⟩
     ·rintro b a wy hb hd ⟨z, rfl, HV, HW⟩ K hK
      clear hd
      go_simp
      exact hK _ _ ⟨fun s => if s = 9 then .pointer (some ⟨X3, 0, none⟩) else z s, rfl, hid (HV.out.up0 0 _ rfl), HW⟩
     ·rintro b a wy hb hd ⟨z, rfl, HV, HW⟩ K hK
      simp [Region.binds] at hd
      have e0 : z 9 = .pointer (some ⟨X3, 0, none⟩) := HV.out.at 0 (by simp [hd]) _ rfl
      clear hd
      have hrw := R3.out.below R3.out.lt HW.out
      have q := hrw.cellAt (i := 0) rfl
      clear hrw
      go_simp
      exact hK _ _ ⟨fun s => if s = 10 then .bool l else if s = 9 then .pointer (some ⟨X3, 0, none⟩) else z s, rfl, hid (HV.out.up1 1 0 _ rfl _ rfl), HW⟩
     ·rintro b a wy hb hd ⟨z, rfl, HV, HW⟩ K hK
      clear hd
      go_simp
      exact hK _ _ ⟨fun s => if s = 11 then .pointer (some ⟨X2, 0, none⟩) else z s, rfl, hid (HV.out.up0 2 _ rfl), HW⟩
     ·rintro b a wy hb hd ⟨z, rfl, HV, HW⟩ K hK
      simp [Region.binds] at hd
      have e2 : z 11 = .pointer (some ⟨X2, 0, none⟩) := HV.out.at 2 (by simp [hd]) _ rfl
      clear hd
      have hrw := R2.out.below R2.out.lt HW.out
      have q := hrw.cellAt (i := 0) rfl
      clear hrw
      go_simp
      exact hK _ _ ⟨fun s => if s = 12 then .int .i64 (lv : Int) else if s = 11 then .pointer (some ⟨X2, 0, none⟩) else z s, rfl, hid (HV.out.up1 3 2 _ rfl _ rfl), HW⟩
     ·rintro b a wy hb hd ⟨z, rfl, HV, HW⟩ K hK
      simp [Region.binds] at hd
      have e3 : z 12 = .int .i64 (lv : Int) := HV.out.at 3 (by simp [hd]) _ rfl
      clear hd
      have hp := HP.out
      go_simp
      exact hK _ _ ⟨fun s => if s = 13 then .bool p else if s = 12 then .int .i64 (lv : Int) else z s, rfl, hid (HV.out.up1 4 3 _ rfl _ rfl), HW⟩
     ·rintro b a wy hb hd ⟨z, rfl, HV, HW⟩ K hK
      simp [Region.binds] at hd
      have e1 : z 10 = .bool l := HV.out.at 1 (by simp [hd]) _ rfl
      have e4 : z 13 = .bool p := HV.out.at 4 (by simp [hd]) _ rfl
      clear hd
      have d1 := D1.out
      go_simp
      exact hK _ _ ⟨fun s => if s = 14 then .bool true else if s = 10 then .bool l else if s = 13 then .bool p else z s, rfl, hid (HV.out.up2 5 1 4 _ rfl _ rfl _ rfl), HW⟩
     ·rintro b a wy hb hd ⟨z, rfl, HV, HW⟩ K hK
      simp [Region.binds] at hd
      have e5 : z 14 = .bool true := HV.out.at 5 (by simp [hd]) _ rfl
      clear hd
      go_simp
      exact hK _ _ ⟨fun s => if s = 15 then .bool true else if s = 14 then .bool true else z s, rfl, hid (HV.out.up1 6 5 _ rfl _ rfl), HW⟩
     ·rintro b a wy hb hd ⟨z, rfl, HV, HW⟩ K hK
      simp [Region.binds] at hd
      have e6 : z 15 = .bool true := HV.out.at 6 (by simp [hd]) _ rfl
      clear hd
      go_simp
      exact hK _ _ ⟨fun s => if s = 16 then Value.int IntKind.i64 ↑n else if s = 15 then .bool true else z s, rfl, hid (HV.out.up1 7 6 _ rfl _ rfl), HW⟩
     ·rintro b a wy hb hd ⟨z, rfl, HV, HW⟩ K hK
      simp [Region.binds] at hd
      have e6 : z 15 = .bool true := HV.out.at 6 (by simp [hd]) _ rfl
      clear hd
      go_simp
      exact hK _ _ ⟨fun s => if s = 17 then .pointer (some ⟨X2, 1, none⟩) else if s = 15 then .bool true else z s, rfl, hid (HV.out.up1 8 6 _ rfl _ rfl), HW⟩
     ·rintro b a wy hb hd ⟨z, rfl, HV, HW⟩ K hK
      simp [Region.binds] at hd
      have e6 : z 15 = .bool true := HV.out.at 6 (by simp [hd]) _ rfl
      have e8 : z 17 = .pointer (some ⟨X2, 1, none⟩) := HV.out.at 8 (by simp [hd]) _ rfl
      clear hd
      have hrw := R2.out.below R2.out.lt HW.out
      have q := hrw.cellAt (i := 1) rfl
      clear hrw
      go_simp
      exact hK _ _ ⟨fun s => if s = 18 then .int .i64 (f : Int) else if s = 15 then .bool true else if s = 17 then .pointer (some ⟨X2, 1, none⟩) else z s, rfl, hid (HV.out.up2 9 6 8 _ rfl _ rfl _ rfl), HW⟩
     ·rintro b a wy hb hd ⟨z, rfl, HV, HW⟩ K hK
      simp [Region.binds] at hd
      have e6 : z 15 = .bool true := HV.out.at 6 (by simp [hd]) _ rfl
      have e7 : z 16 = Value.int IntKind.i64 ↑n := HV.out.at 7 (by simp [hd]) _ rfl
      have e9 : z 18 = .int .i64 (f : Int) := HV.out.at 9 (by simp [hd]) _ rfl
      clear hd
      have d2 := D2.out
      go_simp
      exact hK _ _ ⟨fun s => if s = 19 then .bool true else if s = 15 then .bool true else if s = 16 then Value.int IntKind.i64 ↑n else if s = 18 then .int .i64 (f : Int) else z s, rfl, hid (HV.out.up3 10 6 7 9 _ rfl _ rfl _ rfl _ rfl), HW⟩
     ·rintro b a wy hb hd ⟨z, rfl, HV, HW⟩ K hK
      simp [Region.binds] at hd
      have e6 : z 15 = .bool true := HV.out.at 6 (by simp [hd]) _ rfl
      have e10 : z 19 = .bool true := HV.out.at 10 (by simp [hd]) _ rfl
      clear hd
      go_simp
      exact hK _ _ ⟨fun s => if s = 20 then .bool true else if s = 15 then .bool true else if s = 19 then .bool true else z s, rfl, hid (HV.out.up2 11 6 10 _ rfl _ rfl _ rfl), HW⟩
     ·rintro b a wy hb hd ⟨z, rfl, HV, HW⟩ K hK
      simp [Region.binds] at hd
      have e11 : z 20 = .bool true := HV.out.at 11 (by simp [hd]) _ rfl
      clear hd
      go_simp
      exact hK _ _ ⟨fun s => if s = 21 then .bool true else if s = 20 then .bool true else z s, rfl, hid (HV.out.up1 12 11 _ rfl _ rfl), HW⟩
     ·rintro b a wy hb hd ⟨z, rfl, HV, HW⟩ K hK
      simp [Region.binds] at hd
      have e12 : z 21 = .bool true := HV.out.at 12 (by simp [hd]) _ rfl
      clear hd
      go_simp
      exact hK _ _ ⟨fun s => if s = 22 then .pointer (some ⟨X3, 1, none⟩) else if s = 21 then .bool true else z s, rfl, hid (HV.out.up1 13 12 _ rfl _ rfl), HW⟩
     ·rintro b a wy hb hd ⟨z, rfl, HV, HW⟩ K hK
      simp [Region.binds] at hd
      have e12 : z 21 = .bool true := HV.out.at 12 (by simp [hd]) _ rfl
      have e13 : z 22 = .pointer (some ⟨X3, 1, none⟩) := HV.out.at 13 (by simp [hd]) _ rfl
      clear hd
      have hrw := R3.out.below R3.out.lt HW.out
      have q := hrw.cellAt (i := 1) rfl
      clear hrw
      go_simp
      exact hK _ _ ⟨fun s => if s = 23 then .slice (some ⟨bK, oK, none⟩) n c else if s = 21 then .bool true else if s = 22 then .pointer (some ⟨X3, 1, none⟩) else z s, rfl, hid (HV.out.up2 14 12 13 _ rfl _ rfl _ rfl), HW⟩
     ·rintro b a wy hb hd ⟨z, rfl, HV, HW⟩ K hK
      simp [Region.binds] at hd
      have e12 : z 21 = .bool true := HV.out.at 12 (by simp [hd]) _ rfl
      have e14 : z 23 = .slice (some ⟨bK, oK, none⟩) n c := HV.out.at 14 (by simp [hd]) _ rfl
      clear hd
      have h0 := H0i.out
      have h0n := H0.out
      go_simp
      exact hK _ _ ⟨fun s => if s = 24 then .pointer (some ⟨bK, oK, none⟩) else if s = 21 then .bool true else if s = 23 then .slice (some ⟨bK, oK, none⟩) n c else z s, rfl, hid (HV.out.up2 15 12 14 _ rfl _ rfl _ rfl), HW⟩
     ·rintro b a wy hb hd ⟨z, rfl, HV, HW⟩ K hK
      simp [Region.binds] at hd
      have e12 : z 21 = .bool true := HV.out.at 12 (by simp [hd]) _ rfl
      have e15 : z 24 = .pointer (some ⟨bK, oK, none⟩) := HV.out.at 15 (by simp [hd]) _ rfl
      clear hd
      have hcell := (HH.out.below (HH.out.lt (by rw [HKL.out]; exact H0.out)) HW.out) (0) (by rw [HKL.out]; have := H0.out; omega)
      rw [HY.out] at hcell
      simp only [Nat.add_zero] at hcell
      go_simp
      exact hK _ _ ⟨fun s => if s = 25 then .int .u64 (y.toNat : Int) else if s = 21 then .bool true else if s = 24 then .pointer (some ⟨bK, oK, none⟩) else z s, rfl, hid (HV.out.up2 16 12 15 _ rfl _ rfl _ rfl), HW⟩
     ·rintro b a wy hb hd ⟨z, rfl, HV, HW⟩ K hK
      simp [Region.binds] at hd
      have e12 : z 21 = .bool true := HV.out.at 12 (by simp [hd]) _ rfl
      clear hd
      go_simp
      exact hK _ _ ⟨fun s => if s = 26 then .pointer (some ⟨X2, 2, none⟩) else if s = 21 then .bool true else z s, rfl, hid (HV.out.up1 17 12 _ rfl _ rfl), HW⟩
     ·rintro b a wy hb hd ⟨z, rfl, HV, HW⟩ K hK
      simp [Region.binds] at hd
      have e12 : z 21 = .bool true := HV.out.at 12 (by simp [hd]) _ rfl
      have e17 : z 26 = .pointer (some ⟨X2, 2, none⟩) := HV.out.at 17 (by simp [hd]) _ rfl
      clear hd
      have hrw := R2.out.below R2.out.lt HW.out
      have q := hrw.cellAt (i := 2) rfl
      clear hrw
      go_simp
      exact hK _ _ ⟨fun s => if s = 27 then .int .u64 (fr.toNat : Int) else if s = 21 then .bool true else if s = 26 then .pointer (some ⟨X2, 2, none⟩) else z s, rfl, hid (HV.out.up2 18 12 17 _ rfl _ rfl _ rfl), HW⟩
     ·rintro b a wy hb hd ⟨z, rfl, HV, HW⟩ K hK
      simp [Region.binds] at hd
      have e12 : z 21 = .bool true := HV.out.at 12 (by simp [hd]) _ rfl
      have e16 : z 25 = .int .u64 (y.toNat : Int) := HV.out.at 16 (by simp [hd]) _ rfl
      have e18 : z 27 = .int .u64 (fr.toNat : Int) := HV.out.at 18 (by simp [hd]) _ rfl
      clear hd
      have d3 := D3.out
      go_simp
      exact hK _ _ ⟨fun s => if s = 28 then .bool true else if s = 21 then .bool true else if s = 25 then .int .u64 (y.toNat : Int) else if s = 27 then .int .u64 (fr.toNat : Int) else z s, rfl, hid (HV.out.up3 19 12 16 18 _ rfl _ rfl _ rfl _ rfl), HW⟩
     ·rintro b a wy hb hd ⟨z, rfl, HV, HW⟩ K hK
      simp [Region.binds] at hd
      have e12 : z 21 = .bool true := HV.out.at 12 (by simp [hd]) _ rfl
      have e19 : z 28 = .bool true := HV.out.at 19 (by simp [hd]) _ rfl
      clear hd
      go_simp
      exact hK _ _ ⟨fun s => if s = 29 then .bool true else if s = 21 then .bool true else if s = 28 then .bool true else z s, rfl, hid (HV.out.up2 20 12 19 _ rfl _ rfl _ rfl), HW⟩
     ·rintro b a wy hb hd ⟨z, rfl, HV, HW⟩ K hK
      simp [Region.binds] at hd
      have e20 : z 29 = .bool true := HV.out.at 20 (by simp [hd]) _ rfl
      clear hd
      go_simp
      exact hK _ _ ⟨fun s => if s = 30 then .bool true else if s = 29 then .bool true else z s, rfl, hid (HV.out.up1 21 20 _ rfl _ rfl), HW⟩
     ·rintro b a wy hb hd ⟨z, rfl, HV, HW⟩ K hK
      simp [Region.binds] at hd
      have e21 : z 30 = .bool true := HV.out.at 21 (by simp [hd]) _ rfl
      clear hd
      go_simp
      exact hK _ _ ⟨fun s => if s = 31 then .pointer (some ⟨X3, 1, none⟩) else if s = 30 then .bool true else z s, rfl, hid (HV.out.up1 22 21 _ rfl _ rfl), HW⟩
     ·rintro b a wy hb hd ⟨z, rfl, HV, HW⟩ K hK
      simp [Region.binds] at hd
      have e21 : z 30 = .bool true := HV.out.at 21 (by simp [hd]) _ rfl
      have e22 : z 31 = .pointer (some ⟨X3, 1, none⟩) := HV.out.at 22 (by simp [hd]) _ rfl
      clear hd
      have hrw := R3.out.below R3.out.lt HW.out
      have q := hrw.cellAt (i := 1) rfl
      clear hrw
      go_simp
      exact hK _ _ ⟨fun s => if s = 32 then .slice (some ⟨bK, oK, none⟩) n c else if s = 30 then .bool true else if s = 31 then .pointer (some ⟨X3, 1, none⟩) else z s, rfl, hid (HV.out.up2 23 21 22 _ rfl _ rfl _ rfl), HW⟩
     ·rintro b a wy hb hd ⟨z, rfl, HV, HW⟩ K hK
      simp [Region.binds] at hd
      have e21 : z 30 = .bool true := HV.out.at 21 (by simp [hd]) _ rfl
      clear hd
      go_simp
      exact hK _ _ ⟨fun s => if s = 33 then Value.int IntKind.i64 ↑n else if s = 30 then .bool true else z s, rfl, hid (HV.out.up1 24 21 _ rfl _ rfl), HW⟩
     ·rintro b a wy hb hd ⟨z, rfl, HV, HW⟩ K hK
      simp [Region.binds] at hd
      have e21 : z 30 = .bool true := HV.out.at 21 (by simp [hd]) _ rfl
      have e24 : z 33 = Value.int IntKind.i64 ↑n := HV.out.at 24 (by simp [hd]) _ rfl
      clear hd
      have g1 := G1.out
      go_simp
      exact hK _ _ ⟨fun s => if s = 34 then .int .i64 ((n - 1 : Nat) : Int) else if s = 30 then .bool true else if s = 33 then Value.int IntKind.i64 ↑n else z s, rfl, hid (HV.out.up2 25 21 24 _ rfl _ rfl _ rfl), HW⟩
     ·rintro b a wy hb hd ⟨z, rfl, HV, HW⟩ K hK
      simp [Region.binds] at hd
      have e21 : z 30 = .bool true := HV.out.at 21 (by simp [hd]) _ rfl
      have e23 : z 32 = .slice (some ⟨bK, oK, none⟩) n c := HV.out.at 23 (by simp [hd]) _ rfl
      have e25 : z 34 = .int .i64 ((n - 1 : Nat) : Int) := HV.out.at 25 (by simp [hd]) _ rfl
      clear hd
      have g2 := G2.out.1
      have g3 := G2.out.2
      go_simp
      exact hK _ _ ⟨fun s => if s = 35 then .pointer (some ⟨bK, oK + (n - 1), none⟩) else if s = 30 then .bool true else if s = 32 then .slice (some ⟨bK, oK, none⟩) n c else if s = 34 then .int .i64 ((n - 1 : Nat) : Int) else z s, rfl, hid (HV.out.up3 26 21 23 25 _ rfl _ rfl _ rfl _ rfl), HW⟩
     ·rintro b a wy hb hd ⟨z, rfl, HV, HW⟩ K hK
      simp [Region.binds] at hd
      have e21 : z 30 = .bool true := HV.out.at 21 (by simp [hd]) _ rfl
      have e26 : z 35 = .pointer (some ⟨bK, oK + (n - 1), none⟩) := HV.out.at 26 (by simp [hd]) _ rfl
      clear hd
      have hcell := (HH.out.below (HH.out.lt (by rw [HKL.out]; exact H0.out)) HW.out) (n - 1) (by rw [HKL.out]; have := H0.out; omega)
      rw [HU.out] at hcell
      go_simp
      exact hK _ _ ⟨fun s => if s = 36 then .int .u64 (u.toNat : Int) else if s = 30 then .bool true else if s = 35 then .pointer (some ⟨bK, oK + (n - 1), none⟩) else z s, rfl, hid (HV.out.up2 27 21 26 _ rfl _ rfl _ rfl), HW⟩
     ·rintro b a wy hb hd ⟨z, rfl, HV, HW⟩ K hK
      simp [Region.binds] at hd
      have e21 : z 30 = .bool true := HV.out.at 21 (by simp [hd]) _ rfl
      clear hd
      go_simp
      exact hK _ _ ⟨fun s => if s = 37 then .pointer (some ⟨X2, 3, none⟩) else if s = 30 then .bool true else z s, rfl, hid (HV.out.up1 28 21 _ rfl _ rfl), HW⟩
     ·rintro b a wy hb hd ⟨z, rfl, HV, HW⟩ K hK
      simp [Region.binds] at hd
      have e21 : z 30 = .bool true := HV.out.at 21 (by simp [hd]) _ rfl
      have e28 : z 37 = .pointer (some ⟨X2, 3, none⟩) := HV.out.at 28 (by simp [hd]) _ rfl
      clear hd
      have hrw := R2.out.below R2.out.lt HW.out
      have q := hrw.cellAt (i := 3) rfl
      clear hrw
      go_simp
      exact hK _ _ ⟨fun s => if s = 38 then .int .u64 (tt.toNat : Int) else if s = 30 then .bool true else if s = 37 then .pointer (some ⟨X2, 3, none⟩) else z s, rfl, hid (HV.out.up2 29 21 28 _ rfl _ rfl _ rfl), HW⟩
     ·rintro b a wy hb hd ⟨z, rfl, HV, HW⟩ K hK
      simp [Region.binds] at hd
      have e21 : z 30 = .bool true := HV.out.at 21 (by simp [hd]) _ rfl
      have e27 : z 36 = .int .u64 (u.toNat : Int) := HV.out.at 27 (by simp [hd]) _ rfl
      have e29 : z 38 = .int .u64 (tt.toNat : Int) := HV.out.at 29 (by simp [hd]) _ rfl
      clear hd
      have d4 := D4.out.1
      have d4n := D4.out.2
      go_simp
      exact hK _ _ ⟨fun s => if s = 39 then .bool q4 else if s = 30 then .bool true else if s = 36 then .int .u64 (u.toNat : Int) else if s = 38 then .int .u64 (tt.toNat : Int) else z s, rfl, hid (HV.out.up3 30 21 27 29 _ rfl _ rfl _ rfl _ rfl), HW⟩
     ·rintro b a wy hb hd ⟨z, rfl, HV, HW⟩ K hK
      simp [Region.binds] at hd
      have e21 : z 30 = .bool true := HV.out.at 21 (by simp [hd]) _ rfl
      have e30 : z 39 = .bool q4 := HV.out.at 30 (by simp [hd]) _ rfl
      clear hd
      go_simp
      exact hK _ _ ⟨fun s => if s = 40 then .bool q4 else if s = 30 then .bool true else if s = 39 then .bool q4 else z s, rfl, hid (HV.out.up2 31 21 30 _ rfl _ rfl _ rfl), HW⟩
     ·rintro b a wy hb hd ⟨z, rfl, HV, HW⟩ K hK
      simp [Region.binds] at hd
      have e31 : z 40 = .bool q4 := HV.out.at 31 (by simp [hd]) _ rfl
      clear hd
      go_simp
      exact hK _ _ ⟨fun s => if s = 4 then .bool q4 else if s = 40 then .bool q4 else z s, rfl, hid (HV.out.end1 31 _ rfl _ rfl), HW⟩
    case doneE =>
     rintro b a wy hb ⟨z, rfl, HV, HW⟩
     have e4 : z 4 = .bool q4 := HV.out.2 (hb 32) _ rfl
     rw [e4]
     clear HV hb e4
     go_wp2_with fail
     go_ret
     exact ⟨by rw [HZ.out]; rfl, HB.out.trans (HW.out.mono HB.out.size)⟩
   ·have D3 := hid (show decide ((fr.toNat : Int) ≤ (y.toNat : Int)) = false ∧ decide (fr.toNat ≤ y.toNat) = false from ⟨decide_eq_false (by omega), decide_eq_false q3⟩)
    have HZ := hid (show r = false by rw [HR2.out, decide_eq_false q3]; rfl)
    clear q3 HR2 HND
    refine Inv2.wp_region_inv (fun b a wy => ∃ z : Nat → Value, a = ⟨#[Value.agg #[Value.int IntKind.i64 ↑lv, Value.int IntKind.i64 ↑f, Value.int IntKind.u64 ↑fr.toNat, Value.int IntKind.u64 ↑tt.toNat], Value.agg #[Value.bool l, Value.slice (some ⟨bK, oK, none⟩) n c, Value.slice V m d], Value.pointer (some ⟨X2, 0, none⟩), Value.pointer (some ⟨X3, 0, none⟩), z 4, Value.int IntKind.i64 ↑n, Value.pointer (some ⟨X3, 1, none⟩), Value.slice (some ⟨bK, oK, none⟩) n c, Value.int IntKind.i64 ↑n, z 9, z 10, z 11, z 12, z 13, z 14, z 15, z 16, z 17, z 18, z 19, z 20, z 21, z 22, z 23, z 24, z 25, z 26, z 27, z 28, z 29, z 30, z 31, z 32, z 33, z 34, z 35, z 36, z 37, z 38, z 39, z 40], []⟩ ∧ Hid (Vl b z [.pointer (some ⟨X3, 0, none⟩), .bool l, .pointer (some ⟨X2, 0, none⟩), .int .i64 (lv : Int), .bool p, .bool true, .bool true, Value.int IntKind.i64 ↑n, .pointer (some ⟨X2, 1, none⟩), .int .i64 (f : Int), .bool true, .bool true, .bool true, .pointer (some ⟨X3, 1, none⟩), .slice (some ⟨bK, oK, none⟩) n c, .pointer (some ⟨bK, oK, none⟩), .int .u64 (y.toNat : Int), .pointer (some ⟨X2, 2, none⟩), .int .u64 (fr.toNat : Int), .bool false, .bool false, .bool false, undef, undef, undef, undef, undef, undef, undef, undef, undef, Value.bool false, Value.bool false]) ∧ Hid (Below w2.heap.size w2 wy)) (by kernel_rfl) (by kernel_rfl) ?startC ?stepsC ?doneC
    case startC =>
     intro b hb
     refine ⟨fun s => if s = 4 then Value.bool false else undef, rfl, hid ⟨fun i hi e => (by rw [hb i (by show i < 33; omega)] at e; cases e), fun e => (by rw [hb 32 (by decide)] at e; cases e)⟩, hid ((show Still w2 w2.drew from ⟨rfl, rfl, rfl, rfl⟩).below _)⟩
    case stepsC =>
     refine ⟨?_, ?_, ?_, ?_, ?_, ?_, ?_, ?_, ?_, ?_, ?_, ?_, ?_, ?_, ?_, ?_, ?_, ?_, ?_, ?_, ?_, ?_, ?_, ?_, ?_, ?_, ?_, ?_, ?_, ?_, ?_, ?_, ?_, trivial⟩
     ·rintro b a wy hb hd ⟨z, rfl, HV, HW⟩ K hK
      clear hd
      go_simp
      exact hK _ _ ⟨fun s => if s = 9 then .pointer (some ⟨X3, 0, none⟩) else z s, rfl, hid (HV.out.up0 0 _ rfl), HW⟩
     ·rintro b a wy hb hd ⟨z, rfl, HV, HW⟩ K hK
      simp [Region.binds] at hd
      have e0 : z 9 = .pointer (some ⟨X3, 0, none⟩) := HV.out.at 0 (by simp [hd]) _ rfl
      clear hd
      have hrw := R3.out.below R3.out.lt HW.out
      have q := hrw.cellAt (i := 0) rfl
      clear hrw
      go_simp
      exact hK _ _ ⟨fun s => if s = 10 then .bool l else if s = 9 then .pointer (some ⟨X3, 0, none⟩) else z s, rfl, hid (HV.out.up1 1 0 _ rfl _ rfl), HW⟩
     ·rintro b a wy hb hd ⟨z, rfl, HV, HW⟩ K hK
      clear hd
      go_simp
      exact hK _ _ ⟨fun s => if s = 11 then .pointer (some ⟨X2, 0, none⟩) else z s, rfl, hid (HV.out.up0 2 _ rfl), HW⟩
     ·rintro b a wy hb hd ⟨z, rfl, HV, HW⟩ K hK
      simp [Region.binds] at hd
      have e2 : z 11 = .pointer (some ⟨X2, 0, none⟩) := HV.out.at 2 (by simp [hd]) _ rfl
      clear hd
      have hrw := R2.out.below R2.out.lt HW.out
      have q := hrw.cellAt (i := 0) rfl
      clear hrw
      go_simp
      exact hK _ _ ⟨fun s => if s = 12 then .int .i64 (lv : Int) else if s = 11 then .pointer (some ⟨X2, 0, none⟩) else z s, rfl, hid (HV.out.up1 3 2 _ rfl _ rfl), HW⟩
     ·rintro b a wy hb hd ⟨z, rfl, HV, HW⟩ K hK
      simp [Region.binds] at hd
      have e3 : z 12 = .int .i64 (lv : Int) := HV.out.at 3 (by simp [hd]) _ rfl
      clear hd
      have hp := HP.out
      go_simp
      exact hK _ _ ⟨fun s => if s = 13 then .bool p else if s = 12 then .int .i64 (lv : Int) else z s, rfl, hid (HV.out.up1 4 3 _ rfl _ rfl), HW⟩
     ·rintro b a wy hb hd ⟨z, rfl, HV, HW⟩ K hK
      simp [Region.binds] at hd
      have e1 : z 10 = .bool l := HV.out.at 1 (by simp [hd]) _ rfl
      have e4 : z 13 = .bool p := HV.out.at 4 (by simp [hd]) _ rfl
      clear hd
      have d1 := D1.out
      go_simp
      exact hK _ _ ⟨fun s => if s = 14 then .bool true else if s = 10 then .bool l else if s = 13 then .bool p else z s, rfl, hid (HV.out.up2 5 1 4 _ rfl _ rfl _ rfl), HW⟩
     ·rintro b a wy hb hd ⟨z, rfl, HV, HW⟩ K hK
      simp [Region.binds] at hd
      have e5 : z 14 = .bool true := HV.out.at 5 (by simp [hd]) _ rfl
      clear hd
      go_simp
      exact hK _ _ ⟨fun s => if s = 15 then .bool true else if s = 14 then .bool true else z s, rfl, hid (HV.out.up1 6 5 _ rfl _ rfl), HW⟩
     ·rintro b a wy hb hd ⟨z, rfl, HV, HW⟩ K hK
      simp [Region.binds] at hd
      have e6 : z 15 = .bool true := HV.out.at 6 (by simp [hd]) _ rfl
      clear hd
      go_simp
      exact hK _ _ ⟨fun s => if s = 16 then Value.int IntKind.i64 ↑n else if s = 15 then .bool true else z s, rfl, hid (HV.out.up1 7 6 _ rfl _ rfl), HW⟩
     ·rintro b a wy hb hd ⟨z, rfl, HV, HW⟩ K hK
      simp [Region.binds] at hd
      have e6 : z 15 = .bool true := HV.out.at 6 (by simp [hd]) _ rfl
      clear hd
      go_simp
      exact hK _ _ ⟨fun s => if s = 17 then .pointer (some ⟨X2, 1, none⟩) else if s = 15 then .bool true else z s, rfl, hid (HV.out.up1 8 6 _ rfl _ rfl), HW⟩
     ·rintro b a wy hb hd ⟨z, rfl, HV, HW⟩ K hK
      simp [Region.binds] at hd
      have e6 : z 15 = .bool true := HV.out.at 6 (by simp [hd]) _ rfl
      have e8 : z 17 = .pointer (some ⟨X2, 1, none⟩) := HV.out.at 8 (by simp [hd]) _ rfl
      clear hd
      have hrw := R2.out.below R2.out.lt HW.out
      have q := hrw.cellAt (i := 1) rfl
      clear hrw
      go_simp
      exact hK _ _ ⟨fun s => if s = 18 then .int .i64 (f : Int) else if s = 15 then .bool true else if s = 17 then .pointer (some ⟨X2, 1, none⟩) else z s, rfl, hid (HV.out.up2 9 6 8 _ rfl _ rfl _ rfl), HW⟩
     ·rintro b a wy hb hd ⟨z, rfl, HV, HW⟩ K hK
      simp [Region.binds] at hd
      have e6 : z 15 = .bool true := HV.out.at 6 (by simp [hd]) _ rfl
      have e7 : z 16 = Value.int IntKind.i64 ↑n := HV.out.at 7 (by simp [hd]) _ rfl
      have e9 : z 18 = .int .i64 (f : Int) := HV.out.at 9 (by simp [hd]) _ rfl
      clear hd
      have d2 := D2.out
      go_simp
      exact hK _ _ ⟨fun s => if s = 19 then .bool true else if s = 15 then .bool true else if s = 16 then Value.int IntKind.i64 ↑n else if s = 18 then .int .i64 (f : Int) else z s, rfl, hid (HV.out.up3 10 6 7 9 _ rfl _ rfl _ rfl _ rfl), HW⟩
     ·rintro b a wy hb hd ⟨z, rfl, HV, HW⟩ K hK
      simp [Region.binds] at hd
      have e6 : z 15 = .bool true := HV.out.at 6 (by simp [hd]) _ rfl
      have e10 : z 19 = .bool true := HV.out.at 10 (by simp [hd]) _ rfl
      clear hd
      go_simp
      exact hK _ _ ⟨fun s => if s = 20 then .bool true else if s = 15 then .bool true else if s = 19 then .bool true else z s, rfl, hid (HV.out.up2 11 6 10 _ rfl _ rfl _ rfl), HW⟩
     ·rintro b a wy hb hd ⟨z, rfl, HV, HW⟩ K hK
      simp [Region.binds] at hd
      have e11 : z 20 = .bool true := HV.out.at 11 (by simp [hd]) _ rfl
      clear hd
      go_simp
      exact hK _ _ ⟨fun s => if s = 21 then .bool true else if s = 20 then .bool true else z s, rfl, hid (HV.out.up1 12 11 _ rfl _ rfl), HW⟩
     ·rintro b a wy hb hd ⟨z, rfl, HV, HW⟩ K hK
      simp [Region.binds] at hd
      have e12 : z 21 = .bool true := HV.out.at 12 (by simp [hd]) _ rfl
      clear hd
      go_simp
      exact hK _ _ ⟨fun s => if s = 22 then .pointer (some ⟨X3, 1, none⟩) else if s = 21 then .bool true else z s, rfl, hid (HV.out.up1 13 12 _ rfl _ rfl), HW⟩
     ·rintro b a wy hb hd ⟨z, rfl, HV, HW⟩ K hK
      simp [Region.binds] at hd
      have e12 : z 21 = .bool true := HV.out.at 12 (by simp [hd]) _ rfl
      have e13 : z 22 = .pointer (some ⟨X3, 1, none⟩) := HV.out.at 13 (by simp [hd]) _ rfl
      clear hd
      have hrw := R3.out.below R3.out.lt HW.out
      have q := hrw.cellAt (i := 1) rfl
      clear hrw
      go_simp
      exact hK _ _ ⟨fun s => if s = 23 then .slice (some ⟨bK, oK, none⟩) n c else if s = 21 then .bool true else if s = 22 then .pointer (some ⟨X3, 1, none⟩) else z s, rfl, hid (HV.out.up2 14 12 13 _ rfl _ rfl _ rfl), HW⟩
     ·rintro b a wy hb hd ⟨z, rfl, HV, HW⟩ K hK
      simp [Region.binds] at hd
      have e12 : z 21 = .bool true := HV.out.at 12 (by simp [hd]) _ rfl
      have e14 : z 23 = .slice (some ⟨bK, oK, none⟩) n c := HV.out.at 14 (by simp [hd]) _ rfl
      clear hd
      have h0 := H0i.out
      have h0n := H0.out
      go_simp
      exact hK _ _ ⟨fun s => if s = 24 then .pointer (some ⟨bK, oK, none⟩) else if s = 21 then .bool true else if s = 23 then .slice (some ⟨bK, oK, none⟩) n c else z s, rfl, hid (HV.out.up2 15 12 14 _ rfl _ rfl _ rfl), HW⟩
     ·rintro b a wy hb hd ⟨z, rfl, HV, HW⟩ K hK
      simp [Region.binds] at hd
      have e12 : z 21 = .bool true := HV.out.at 12 (by simp [hd]) _ rfl
      have e15 : z 24 = .pointer (some ⟨bK, oK, none⟩) := HV.out.at 15 (by simp [hd]) _ rfl
      clear hd
      have hcell := (HH.out.below (HH.out.lt (by rw [HKL.out]; exact H0.out)) HW.out) (0) (by rw [HKL.out]; have := H0.out; omega)
      rw [HY.out] at hcell
      simp only [Nat.add_zero] at hcell
      go_simp
      exact hK _ _ ⟨fun s => if s = 25 then .int .u64 (y.toNat : Int) else if s = 21 then .bool true else if s = 24 then .pointer (some ⟨bK, oK, none⟩) else z s, rfl, hid (HV.out.up2 16 12 15 _ rfl _ rfl _ rfl), HW⟩
     ·rintro b a wy hb hd ⟨z, rfl, HV, HW⟩ K hK
      simp [Region.binds] at hd
      have e12 : z 21 = .bool true := HV.out.at 12 (by simp [hd]) _ rfl
      clear hd
      go_simp
      exact hK _ _ ⟨fun s => if s = 26 then .pointer (some ⟨X2, 2, none⟩) else if s = 21 then .bool true else z s, rfl, hid (HV.out.up1 17 12 _ rfl _ rfl), HW⟩
     ·rintro b a wy hb hd ⟨z, rfl, HV, HW⟩ K hK
      simp [Region.binds] at hd
      have e12 : z 21 = .bool true := HV.out.at 12 (by simp [hd]) _ rfl
      have e17 : z 26 = .pointer (some ⟨X2, 2, none⟩) := HV.out.at 17 (by simp [hd]) _ rfl
      clear hd
      have hrw := R2.out.below R2.out.lt HW.out
      have q := hrw.cellAt (i := 2) rfl
      clear hrw
      go_simp
      exact hK _ _ ⟨fun s => if s = 27 then .int .u64 (fr.toNat : Int) else if s = 21 then .bool true else if s = 26 then .pointer (some ⟨X2, 2, none⟩) else z s, rfl, hid (HV.out.up2 18 12 17 _ rfl _ rfl _ rfl), HW⟩
     ·rintro b a wy hb hd ⟨z, rfl, HV, HW⟩ K hK
      simp [Region.binds] at hd
      have e12 : z 21 = .bool true := HV.out.at 12 (by simp [hd]) _ rfl
      have e16 : z 25 = .int .u64 (y.toNat : Int) := HV.out.at 16 (by simp [hd]) _ rfl
      have e18 : z 27 = .int .u64 (fr.toNat : Int) := HV.out.at 18 (by simp [hd]) _ rfl
      clear hd
      have d3 := D3.out.1
      have d3n := D3.out.2
      go_simp
      exact hK _ _ ⟨fun s => if s = 28 then .bool false else if s = 21 then .bool true else if s = 25 then .int .u64 (y.toNat : Int) else if s = 27 then .int .u64 (fr.toNat : Int) else z s, rfl, hid (HV.out.up3 19 12 16 18 _ rfl _ rfl _ rfl _ rfl), HW⟩
     ·rintro b a wy hb hd ⟨z, rfl, HV, HW⟩ K hK
      simp [Region.binds] at hd
      have e12 : z 21 = .bool true := HV.out.at 12 (by simp [hd]) _ rfl
      have e19 : z 28 = .bool false := HV.out.at 19 (by simp [hd]) _ rfl
      clear hd
      go_simp
      exact hK _ _ ⟨fun s => if s = 29 then .bool false else if s = 21 then .bool true else if s = 28 then .bool false else z s, rfl, hid (HV.out.up2 20 12 19 _ rfl _ rfl _ rfl), HW⟩
     ·rintro b a wy hb hd ⟨z, rfl, HV, HW⟩ K hK
      simp [Region.binds] at hd
      have e20 : z 29 = .bool false := HV.out.at 20 (by simp [hd]) _ rfl
      clear hd
      go_simp
      exact hK _ _ ⟨fun s => if s = 30 then .bool false else if s = 29 then .bool false else z s, rfl, hid (HV.out.up1 21 20 _ rfl _ rfl), HW⟩
     iterate 9
      rintro b a wy hb hd ⟨z, rfl, HV, HW⟩ K hK
      simp [Region.binds] at hd
      have e := HV.out.at 21 (by simp [hd])
      replace e : z 30 = .bool false := e _ rfl
      clear hd
      go_simp
      refine hK _ _ ⟨_, ?_, hid (HV.out.up1 _ 21 _ rfl _ rfl), HW⟩
      rfl
     ·rintro b a wy hb hd ⟨z, rfl, HV, HW⟩ K hK
      simp [Region.binds] at hd
      have e21 : z 30 = .bool false := HV.out.at 21 (by simp [hd]) _ rfl
      have e30 : z 39 = undef := HV.out.at 30 (by simp [hd]) _ rfl
      clear hd
      go_simp
      exact hK _ _ ⟨fun s => if s = 40 then Value.bool false else if s = 30 then .bool false else if s = 39 then undef else z s, rfl, hid (HV.out.up2 31 21 30 _ rfl _ rfl _ rfl), HW⟩
     ·rintro b a wy hb hd ⟨z, rfl, HV, HW⟩ K hK
      simp [Region.binds] at hd
      have e31 : z 40 = Value.bool false := HV.out.at 31 (by simp [hd]) _ rfl
      clear hd
      go_simp
      exact hK _ _ ⟨fun s => if s = 4 then Value.bool false else if s = 40 then Value.bool false else z s, rfl, hid (HV.out.end1 31 _ rfl _ rfl), HW⟩
    case doneC =>
     rintro b a wy hb ⟨z, rfl, HV, HW⟩
     have e4 : z 4 = Value.bool false := HV.out.2 (hb 32) _ rfl
     rw [e4]
     clear HV hb e4
     go_wp2_with fail
     go_ret
     exact ⟨by rw [HZ.out]; rfl, HB.out.trans (HW.out.mono HB.out.size)⟩
  ·have D2 := hid (show decide ((f : Int) ≤ (n : Int)) = false ∧ decide (f ≤ n) = false from ⟨decide_eq_false (by omega), decide_eq_false q2⟩)
   have HZ := hid (show r = false by rw [HR.out]; unfold fitsR; rw [HKL.out, decide_eq_false q2]; simp)
   clear q1 q1' q2 HR HND
   refine Inv2.wp_region_inv (fun b a wy => ∃ z : Nat → Value, a = ⟨#[Value.agg #[Value.int IntKind.i64 ↑lv, Value.int IntKind.i64 ↑f, Value.int IntKind.u64 ↑fr.toNat, Value.int IntKind.u64 ↑tt.toNat], Value.agg #[Value.bool l, Value.slice K n c, Value.slice V m d], Value.pointer (some ⟨X2, 0, none⟩), Value.pointer (some ⟨X3, 0, none⟩), z 4, Value.int IntKind.i64 ↑n, Value.pointer (some ⟨X3, 1, none⟩), Value.slice K n c, Value.int IntKind.i64 ↑n, z 9, z 10, z 11, z 12, z 13, z 14, z 15, z 16, z 17, z 18, z 19, z 20, z 21, z 22, z 23, z 24, z 25, z 26, z 27, z 28, z 29, z 30, z 31, z 32, z 33, z 34, z 35, z 36, z 37, z 38, z 39, z 40], []⟩ ∧ Hid (Vl b z [.pointer (some ⟨X3, 0, none⟩), .bool l, .pointer (some ⟨X2, 0, none⟩), .int .i64 (lv : Int), .bool p, .bool true, .bool true, Value.int IntKind.i64 ↑n, .pointer (some ⟨X2, 1, none⟩), .int .i64 (f : Int), .bool false, .bool false, .bool false, undef, undef, undef, undef, undef, undef, undef, Value.bool false, Value.bool false, undef, undef, undef, undef, undef, undef, undef, undef, undef, Value.bool false, Value.bool false]) ∧ Hid (Below w2.heap.size w2 wy)) (by kernel_rfl) (by kernel_rfl) ?startB ?stepsB ?doneB
   case startB =>
    intro b hb
    refine ⟨fun s => if s = 4 then Value.bool false else undef, rfl, hid ⟨fun i hi e => (by rw [hb i (by show i < 33; omega)] at e; cases e), fun e => (by rw [hb 32 (by decide)] at e; cases e)⟩, hid ((show Still w2 w2.drew from ⟨rfl, rfl, rfl, rfl⟩).below _)⟩
   case stepsB =>
    refine ⟨?_, ?_, ?_, ?_, ?_, ?_, ?_, ?_, ?_, ?_, ?_, ?_, ?_, ?_, ?_, ?_, ?_, ?_, ?_, ?_, ?_, ?_, ?_, ?_, ?_, ?_, ?_, ?_, ?_, ?_, ?_, ?_, ?_, trivial⟩
    ·rintro b a wy hb hd ⟨z, rfl, HV, HW⟩ K hK
     clear hd
     go_simp
     exact hK _ _ ⟨fun s => if s = 9 then .pointer (some ⟨X3, 0, none⟩) else z s, rfl, hid (HV.out.up0 0 _ rfl), HW⟩
    ·rintro b a wy hb hd ⟨z, rfl, HV, HW⟩ K hK
     simp [Region.binds] at hd
     have e0 : z 9 = .pointer (some ⟨X3, 0, none⟩) := HV.out.at 0 (by simp [hd]) _ rfl
     clear hd
     have hrw := R3.out.below R3.out.lt HW.out
     have q := hrw.cellAt (i := 0) rfl
     clear hrw
     go_simp
     exact hK _ _ ⟨fun s => if s = 10 then .bool l else if s = 9 then .pointer (some ⟨X3, 0, none⟩) else z s, rfl, hid (HV.out.up1 1 0 _ rfl _ rfl), HW⟩
    ·rintro b a wy hb hd ⟨z, rfl, HV, HW⟩ K hK
     clear hd
     go_simp
     exact hK _ _ ⟨fun s => if s = 11 then .pointer (some ⟨X2, 0, none⟩) else z s, rfl, hid (HV.out.up0 2 _ rfl), HW⟩
    ·rintro b a wy hb hd ⟨z, rfl, HV, HW⟩ K hK
     simp [Region.binds] at hd
     have e2 : z 11 = .pointer (some ⟨X2, 0, none⟩) := HV.out.at 2 (by simp [hd]) _ rfl
     clear hd
     have hrw := R2.out.below R2.out.lt HW.out
     have q := hrw.cellAt (i := 0) rfl
     clear hrw
     go_simp
     exact hK _ _ ⟨fun s => if s = 12 then .int .i64 (lv : Int) else if s = 11 then .pointer (some ⟨X2, 0, none⟩) else z s, rfl, hid (HV.out.up1 3 2 _ rfl _ rfl), HW⟩
    ·rintro b a wy hb hd ⟨z, rfl, HV, HW⟩ K hK
     simp [Region.binds] at hd
     have e3 : z 12 = .int .i64 (lv : Int) := HV.out.at 3 (by simp [hd]) _ rfl
     clear hd
     have hp := HP.out
     go_simp
     exact hK _ _ ⟨fun s => if s = 13 then .bool p else if s = 12 then .int .i64 (lv : Int) else z s, rfl, hid (HV.out.up1 4 3 _ rfl _ rfl), HW⟩
    ·rintro b a wy hb hd ⟨z, rfl, HV, HW⟩ K hK
     simp [Region.binds] at hd
     have e1 : z 10 = .bool l := HV.out.at 1 (by simp [hd]) _ rfl
     have e4 : z 13 = .bool p := HV.out.at 4 (by simp [hd]) _ rfl
     clear hd
     have d1 := D1.out
     go_simp
     exact hK _ _ ⟨fun s => if s = 14 then .bool true else if s = 10 then .bool l else if s = 13 then .bool p else z s, rfl, hid (HV.out.up2 5 1 4 _ rfl _ rfl _ rfl), HW⟩
    ·rintro b a wy hb hd ⟨z, rfl, HV, HW⟩ K hK
     simp [Region.binds] at hd
     have e5 : z 14 = .bool true := HV.out.at 5 (by simp [hd]) _ rfl
     clear hd
     go_simp
     exact hK _ _ ⟨fun s => if s = 15 then .bool true else if s = 14 then .bool true else z s, rfl, hid (HV.out.up1 6 5 _ rfl _ rfl), HW⟩
    ·rintro b a wy hb hd ⟨z, rfl, HV, HW⟩ K hK
     simp [Region.binds] at hd
     have e6 : z 15 = .bool true := HV.out.at 6 (by simp [hd]) _ rfl
     clear hd
     go_simp
     exact hK _ _ ⟨fun s => if s = 16 then Value.int IntKind.i64 ↑n else if s = 15 then .bool true else z s, rfl, hid (HV.out.up1 7 6 _ rfl _ rfl), HW⟩
    ·rintro b a wy hb hd ⟨z, rfl, HV, HW⟩ K hK
     simp [Region.binds] at hd
     have e6 : z 15 = .bool true := HV.out.at 6 (by simp [hd]) _ rfl
     clear hd
     go_simp
     exact hK _ _ ⟨fun s => if s = 17 then .pointer (some ⟨X2, 1, none⟩) else if s = 15 then .bool true else z s, rfl, hid (HV.out.up1 8 6 _ rfl _ rfl), HW⟩
    ·rintro b a wy hb hd ⟨z, rfl, HV, HW⟩ K hK
     simp [Region.binds] at hd
     have e6 : z 15 = .bool true := HV.out.at 6 (by simp [hd]) _ rfl
     have e8 : z 17 = .pointer (some ⟨X2, 1, none⟩) := HV.out.at 8 (by simp [hd]) _ rfl
     clear hd
     have hrw := R2.out.below R2.out.lt HW.out
     have q := hrw.cellAt (i := 1) rfl
     clear hrw
     go_simp
     exact hK _ _ ⟨fun s => if s = 18 then .int .i64 (f : Int) else if s = 15 then .bool true else if s = 17 then .pointer (some ⟨X2, 1, none⟩) else z s, rfl, hid (HV.out.up2 9 6 8 _ rfl _ rfl _ rfl), HW⟩
    ·rintro b a wy hb hd ⟨z, rfl, HV, HW⟩ K hK
     simp [Region.binds] at hd
     have e6 : z 15 = .bool true := HV.out.at 6 (by simp [hd]) _ rfl
     have e7 : z 16 = Value.int IntKind.i64 ↑n := HV.out.at 7 (by simp [hd]) _ rfl
     have e9 : z 18 = .int .i64 (f : Int) := HV.out.at 9 (by simp [hd]) _ rfl
     clear hd
     have d2 := D2.out.1
     have d2n := D2.out.2
     go_simp
     exact hK _ _ ⟨fun s => if s = 19 then .bool false else if s = 15 then .bool true else if s = 16 then Value.int IntKind.i64 ↑n else if s = 18 then .int .i64 (f : Int) else z s, rfl, hid (HV.out.up3 10 6 7 9 _ rfl _ rfl _ rfl _ rfl), HW⟩
    ·rintro b a wy hb hd ⟨z, rfl, HV, HW⟩ K hK
     simp [Region.binds] at hd
     have e6 : z 15 = .bool true := HV.out.at 6 (by simp [hd]) _ rfl
     have e10 : z 19 = .bool false := HV.out.at 10 (by simp [hd]) _ rfl
     clear hd
     go_simp
     exact hK _ _ ⟨fun s => if s = 20 then .bool false else if s = 15 then .bool true else if s = 19 then .bool false else z s, rfl, hid (HV.out.up2 11 6 10 _ rfl _ rfl _ rfl), HW⟩
    ·rintro b a wy hb hd ⟨z, rfl, HV, HW⟩ K hK
     simp [Region.binds] at hd
     have e11 : z 20 = .bool false := HV.out.at 11 (by simp [hd]) _ rfl
     clear hd
     go_simp
     exact hK _ _ ⟨fun s => if s = 21 then .bool false else if s = 20 then .bool false else z s, rfl, hid (HV.out.up1 12 11 _ rfl _ rfl), HW⟩
    iterate 7
     rintro b a wy hb hd ⟨z, rfl, HV, HW⟩ K hK
     simp [Region.binds] at hd
     have e := HV.out.at 12 (by simp [hd])
     replace e : z 21 = .bool false := e _ rfl
     clear hd
     go_simp
     refine hK _ _ ⟨_, ?_, hid (HV.out.up1 _ 12 _ rfl _ rfl), HW⟩
     rfl
    ·rintro b a wy hb hd ⟨z, rfl, HV, HW⟩ K hK
     simp [Region.binds] at hd
     have e12 : z 21 = .bool false := HV.out.at 12 (by simp [hd]) _ rfl
     have e19 : z 28 = undef := HV.out.at 19 (by simp [hd]) _ rfl
     clear hd
     go_simp
     exact hK _ _ ⟨fun s => if s = 29 then Value.bool false else if s = 21 then .bool false else if s = 28 then undef else z s, rfl, hid (HV.out.up2 20 12 19 _ rfl _ rfl _ rfl), HW⟩
    ·rintro b a wy hb hd ⟨z, rfl, HV, HW⟩ K hK
     simp [Region.binds] at hd
     have e20 : z 29 = Value.bool false := HV.out.at 20 (by simp [hd]) _ rfl
     clear hd
     go_simp
     exact hK _ _ ⟨fun s => if s = 30 then Value.bool false else if s = 29 then Value.bool false else z s, rfl, hid (HV.out.up1 21 20 _ rfl _ rfl), HW⟩
    iterate 9
     rintro b a wy hb hd ⟨z, rfl, HV, HW⟩ K hK
     simp [Region.binds] at hd
     have e := HV.out.at 21 (by simp [hd])
     replace e : z 30 = Value.bool false := e _ rfl
     clear hd
     go_simp
     refine hK _ _ ⟨_, ?_, hid (HV.out.up1 _ 21 _ rfl _ rfl), HW⟩
     rfl
    ·rintro b a wy hb hd ⟨z, rfl, HV, HW⟩ K hK
     simp [Region.binds] at hd
     have e21 : z 30 = Value.bool false := HV.out.at 21 (by simp [hd]) _ rfl
     have e30 : z 39 = undef := HV.out.at 30 (by simp [hd]) _ rfl
     clear hd
     go_simp
     exact hK _ _ ⟨fun s => if s = 40 then Value.bool false else if s = 30 then Value.bool false else if s = 39 then undef else z s, rfl, hid (HV.out.up2 31 21 30 _ rfl _ rfl _ rfl), HW⟩
    ·rintro b a wy hb hd ⟨z, rfl, HV, HW⟩ K hK
     simp [Region.binds] at hd
     have e31 : z 40 = Value.bool false := HV.out.at 31 (by simp [hd]) _ rfl
     clear hd
     go_simp
     exact hK _ _ ⟨fun s => if s = 4 then Value.bool false else if s = 40 then Value.bool false else z s, rfl, hid (HV.out.end1 31 _ rfl _ rfl), HW⟩
   case doneB =>
    rintro b a wy hb ⟨z, rfl, HV, HW⟩
    have e4 : z 4 = Value.bool false := HV.out.2 (hb 32) _ rfl
    rw [e4]
    clear HV hb e4
    go_wp2_with fail
    go_ret
    exact ⟨by rw [HZ.out]; rfl, HB.out.trans (HW.out.mono HB.out.size)⟩
 ·have HZ := hid (show r = false by rw [HR.out]; unfold fitsR; rw [decide_eq_false (fun z => q1 (z.trans HPd.out.symm))]; simp)
  have D1 := hid (show (l == p) = false from beq_eq_false_iff_ne.mpr q1)
  clear q1 HR HND
  refine Inv2.wp_region_inv (fun b a wy => ∃ z : Nat → Value, a = ⟨#[Value.agg #[Value.int IntKind.i64 ↑lv, Value.int IntKind.i64 ↑f, Value.int IntKind.u64 ↑fr.toNat, Value.int IntKind.u64 ↑tt.toNat], Value.agg #[Value.bool l, Value.slice K n c, Value.slice V m d], Value.pointer (some ⟨X2, 0, none⟩), Value.pointer (some ⟨X3, 0, none⟩), z 4, Value.int IntKind.i64 ↑n, Value.pointer (some ⟨X3, 1, none⟩), Value.slice K n c, Value.int IntKind.i64 ↑n, z 9, z 10, z 11, z 12, z 13, z 14, z 15, z 16, z 17, z 18, z 19, z 20, z 21, z 22, z 23, z 24, z 25, z 26, z 27, z 28, z 29, z 30, z 31, z 32, z 33, z 34, z 35, z 36, z 37, z 38, z 39, z 40], []⟩ ∧ Hid (Vl b z [.pointer (some ⟨X3, 0, none⟩), .bool l, .pointer (some ⟨X2, 0, none⟩), .int .i64 (lv : Int), .bool p, .bool false, .bool false, undef, undef, undef, undef, Value.bool false, Value.bool false, undef, undef, undef, undef, undef, undef, undef, Value.bool false, Value.bool false, undef, undef, undef, undef, undef, undef, undef, undef, undef, Value.bool false, Value.bool false]) ∧ Hid (Below w2.heap.size w2 wy)) (by kernel_rfl) (by kernel_rfl) ?startA ?stepsA ?doneA
  case startA =>
   intro b hb
   refine ⟨fun s => if s = 4 then Value.bool false else undef, rfl, hid ⟨fun i hi e => (by rw [hb i (by show i < 33; omega)] at e; cases e), fun e => (by rw [hb 32 (by decide)] at e; cases e)⟩, hid ((show Still w2 w2.drew from ⟨rfl, rfl, rfl, rfl⟩).below _)⟩
  case stepsA =>
   refine ⟨?_, ?_, ?_, ?_, ?_, ?_, ?_, ?_, ?_, ?_, ?_, ?_, ?_, ?_, ?_, ?_, ?_, ?_, ?_, ?_, ?_, ?_, ?_, ?_, ?_, ?_, ?_, ?_, ?_, ?_, ?_, ?_, ?_, trivial⟩
   ·rintro b a wy hb hd ⟨z, rfl, HV, HW⟩ K hK
    clear hd
    go_simp
    exact hK _ _ ⟨fun s => if s = 9 then .pointer (some ⟨X3, 0, none⟩) else z s, rfl, hid (HV.out.up0 0 _ rfl), HW⟩
   ·rintro b a wy hb hd ⟨z, rfl, HV, HW⟩ K hK
    simp [Region.binds] at hd
    have e0 : z 9 = .pointer (some ⟨X3, 0, none⟩) := HV.out.at 0 (by simp [hd]) _ rfl
    clear hd
    have hrw := R3.out.below R3.out.lt HW.out
    have q := hrw.cellAt (i := 0) rfl
    clear hrw
    go_simp
    exact hK _ _ ⟨fun s => if s = 10 then .bool l else if s = 9 then .pointer (some ⟨X3, 0, none⟩) else z s, rfl, hid (HV.out.up1 1 0 _ rfl _ rfl), HW⟩
   ·rintro b a wy hb hd ⟨z, rfl, HV, HW⟩ K hK
    clear hd
    go_simp
    exact hK _ _ ⟨fun s => if s = 11 then .pointer (some ⟨X2, 0, none⟩) else z s, rfl, hid (HV.out.up0 2 _ rfl), HW⟩
   ·rintro b a wy hb hd ⟨z, rfl, HV, HW⟩ K hK
    simp [Region.binds] at hd
    have e2 : z 11 = .pointer (some ⟨X2, 0, none⟩) := HV.out.at 2 (by simp [hd]) _ rfl
    clear hd
    have hrw := R2.out.below R2.out.lt HW.out
    have q := hrw.cellAt (i := 0) rfl
    clear hrw
    go_simp
    exact hK _ _ ⟨fun s => if s = 12 then .int .i64 (lv : Int) else if s = 11 then .pointer (some ⟨X2, 0, none⟩) else z s, rfl, hid (HV.out.up1 3 2 _ rfl _ rfl), HW⟩
   ·rintro b a wy hb hd ⟨z, rfl, HV, HW⟩ K hK
    simp [Region.binds] at hd
    have e3 : z 12 = .int .i64 (lv : Int) := HV.out.at 3 (by simp [hd]) _ rfl
    clear hd
    have hp := HP.out
    go_simp
    exact hK _ _ ⟨fun s => if s = 13 then .bool p else if s = 12 then .int .i64 (lv : Int) else z s, rfl, hid (HV.out.up1 4 3 _ rfl _ rfl), HW⟩
   ·rintro b a wy hb hd ⟨z, rfl, HV, HW⟩ K hK
    simp [Region.binds] at hd
    have e1 : z 10 = .bool l := HV.out.at 1 (by simp [hd]) _ rfl
    have e4 : z 13 = .bool p := HV.out.at 4 (by simp [hd]) _ rfl
    clear hd
    have d1 := D1.out
    go_simp
    exact hK _ _ ⟨fun s => if s = 14 then .bool false else if s = 10 then .bool l else if s = 13 then .bool p else z s, rfl, hid (HV.out.up2 5 1 4 _ rfl _ rfl _ rfl), HW⟩
   ·rintro b a wy hb hd ⟨z, rfl, HV, HW⟩ K hK
    simp [Region.binds] at hd
    have e5 : z 14 = .bool false := HV.out.at 5 (by simp [hd]) _ rfl
    clear hd
    go_simp
    exact hK _ _ ⟨fun s => if s = 15 then .bool false else if s = 14 then .bool false else z s, rfl, hid (HV.out.up1 6 5 _ rfl _ rfl), HW⟩
   iterate 4
    rintro b a wy hb hd ⟨z, rfl, HV, HW⟩ K hK
    simp [Region.binds] at hd
    have e := HV.out.at 6 (by simp [hd])
    replace e : z 15 = .bool false := e _ rfl
    clear hd
    go_simp
    refine hK _ _ ⟨_, ?_, hid (HV.out.up1 _ 6 _ rfl _ rfl), HW⟩
    rfl
   ·rintro b a wy hb hd ⟨z, rfl, HV, HW⟩ K hK
    simp [Region.binds] at hd
    have e6 : z 15 = .bool false := HV.out.at 6 (by simp [hd]) _ rfl
    have e10 : z 19 = undef := HV.out.at 10 (by simp [hd]) _ rfl
    clear hd
    go_simp
    exact hK _ _ ⟨fun s => if s = 20 then Value.bool false else if s = 15 then .bool false else if s = 19 then undef else z s, rfl, hid (HV.out.up2 11 6 10 _ rfl _ rfl _ rfl), HW⟩
   ·rintro b a wy hb hd ⟨z, rfl, HV, HW⟩ K hK
    simp [Region.binds] at hd
    have e11 : z 20 = Value.bool false := HV.out.at 11 (by simp [hd]) _ rfl
    clear hd
    go_simp
    exact hK _ _ ⟨fun s => if s = 21 then Value.bool false else if s = 20 then Value.bool false else z s, rfl, hid (HV.out.up1 12 11 _ rfl _ rfl), HW⟩
   iterate 7
    rintro b a wy hb hd ⟨z, rfl, HV, HW⟩ K hK
    simp [Region.binds] at hd
    have e := HV.out.at 12 (by simp [hd])
    replace e : z 21 = Value.bool false := e _ rfl
    clear hd
    go_simp
    refine hK _ _ ⟨_, ?_, hid (HV.out.up1 _ 12 _ rfl _ rfl), HW⟩
    rfl
   ·rintro b a wy hb hd ⟨z, rfl, HV, HW⟩ K hK
    simp [Region.binds] at hd
    have e12 : z 21 = Value.bool false := HV.out.at 12 (by simp [hd]) _ rfl
    have e19 : z 28 = undef := HV.out.at 19 (by simp [hd]) _ rfl
    clear hd
    go_simp
    exact hK _ _ ⟨fun s => if s = 29 then Value.bool false else if s = 21 then Value.bool false else if s = 28 then undef else z s, rfl, hid (HV.out.up2 20 12 19 _ rfl _ rfl _ rfl), HW⟩
   ·rintro b a wy hb hd ⟨z, rfl, HV, HW⟩ K hK
    simp [Region.binds] at hd
    have e20 : z 29 = Value.bool false := HV.out.at 20 (by simp [hd]) _ rfl
    clear hd
    go_simp
    exact hK _ _ ⟨fun s => if s = 30 then Value.bool false else if s = 29 then Value.bool false else z s, rfl, hid (HV.out.up1 21 20 _ rfl _ rfl), HW⟩
   iterate 9
    rintro b a wy hb hd ⟨z, rfl, HV, HW⟩ K hK
    simp [Region.binds] at hd
    have e := HV.out.at 21 (by simp [hd])
    replace e : z 30 = Value.bool false := e _ rfl
    clear hd
    go_simp
    refine hK _ _ ⟨_, ?_, hid (HV.out.up1 _ 21 _ rfl _ rfl), HW⟩
    rfl
   ·rintro b a wy hb hd ⟨z, rfl, HV, HW⟩ K hK
    simp [Region.binds] at hd
    have e21 : z 30 = Value.bool false := HV.out.at 21 (by simp [hd]) _ rfl
    have e30 : z 39 = undef := HV.out.at 30 (by simp [hd]) _ rfl
    clear hd
    go_simp
    exact hK _ _ ⟨fun s => if s = 40 then Value.bool false else if s = 30 then Value.bool false else if s = 39 then undef else z s, rfl, hid (HV.out.up2 31 21 30 _ rfl _ rfl _ rfl), HW⟩
   ·rintro b a wy hb hd ⟨z, rfl, HV, HW⟩ K hK
    simp [Region.binds] at hd
    have e31 : z 40 = Value.bool false := HV.out.at 31 (by simp [hd]) _ rfl
    clear hd
    go_simp
    exact hK _ _ ⟨fun s => if s = 4 then Value.bool false else if s = 40 then Value.bool false else z s, rfl, hid (HV.out.end1 31 _ rfl _ rfl), HW⟩
  case doneA =>
   rintro b a wy hb ⟨z, rfl, HV, HW⟩
   have e4 : z 4 = Value.bool false := HV.out.2 (hb 32) _ rfl
   rw [e4]
   clear HV hb e4
   go_wp2_with fail
   go_ret
   exact ⟨by rw [HZ.out]; rfl, HB.out.trans (HW.out.mono HB.out.size)⟩
end Go.Proofs.YtogchamogbendaaGreat.Bs
namespace Go.Proofs.YtogchamogbendaaGreat.Bs
open Lib (hid)
open Go.RowKit Oct Mv Tl Pk Pl Go.Maps Go.ChangeMaps
open Lf (Nd Fit nodePage RowN ToldN)
open No (atR at_any)
theorem kid_small {ks vs : List UInt64} (h : Fit false ks vs) {i : Nat} (hi : i < vs.length) : (vs.getD i 0).toNat < 4096 := by
 rcases h.2.2.2 with q | q
 ·cases q
 ·exact (q.2.1 _ (getD_mem' hi)).2
theorem all_upto {f : Nat → Bool} : ∀ {n : Nat}, (∀ i, i < n → f i = true) → (List.range n).all f = true := fun {n} h => by
 rw [List.all_eq_true]
 intro i hi
 exact h i (List.mem_range.1 hi)
theorem all_not {f : Nat → Bool} {n i : Nat} (hi : i < n) (h : f i = false) : (List.range n).all f = false := by
 rw [List.all_eq_false]
 exact ⟨i, List.mem_range.2 hi, by rw [h]; decide⟩
section
variable {Pr : Nat → Prop} {A : Adr} {x : BS}
set_option maxHeartbeats 4000000 in
theorem right_rec {n : Nat} (hf : Fed n x) : ∀ (lv : Nat) {w : World} (h : BAt Pr w A x) (hlv : 1 ≤ lv ∧ lv ≤ 8) (z : Int) (hz : -9223372036854775808 ≤ z ∧ z ≤ 9223372036854775807) (f : Nat) (h7 : 1 ≤ f ∧ f ≤ 7) (fr tt : UInt64) (r : Bool) (hr : r = rightF x n lv z f fr tt),
  Calls Tryz.prog 116 #[.pointer (some ⟨A.b, 0, none⟩), .int .i64 z, .agg #[.int .i64 (lv : Int), .int .i64 (f : Int), .int .u64 (fr.toNat : Int), .int .u64 (tt.toNat : Int)]] w fun e w' => e = .returned (.bool r) ∧ Below w.heap.size w w' := by
 intro lv
 induction lv with
 | zero => intro w h hlv; omega
 | succ lv ih =>
 intro w h hlv z hz f h7 fr tt r hr
 have IH := hid (fun (w : World) (h : BAt Pr w A x) => ih h)
 clear ih
 have HF := hid hf
 obtain ⟨u, hu⟩ : ∃ u, u = nodeR x n z := ⟨_, rfl⟩
 have HU := hid hu
 have HR := hid (show r = (decide (u.e = 0) && (fitsR u.l u.ks (lv + 1) f fr tt && (u.l || (List.range u.vs.length).all fun i => rightF x n lv (IntKind.i64.wrap ((u.vs.getD i 0).toNat : Int)) 3 (u.ks.getD i 0) (lastR u.ks i tt)))) by rw [hr, hu]; rfl)
 have hl8 : lv + 1 ≤ 8 := hlv.2
 have r0 := alloc_rowV w 187 [.int .i64 ((lv + 1 : Nat) : Int), .int .i64 (f : Int), .int .u64 (fr.toNat : Int), .int .u64 (tt.toNat : Int)]
 have b0 := (Below.refl w.heap.size w).alloc (Nat.le_refl _) (.cells #[.int .i64 ((lv + 1 : Nat) : Int), .int .i64 (f : Int), .int .u64 (fr.toNat : Int), .int .u64 (tt.toNat : Int)] 187)
 have H0 := hid (h.below b0)
 obtain ⟨m, hm⟩ : ∃ m, m = lv + 1 := ⟨_, rfl⟩
 rw [← hm] at HR hl8 r0 b0 H0 ⊢
 have HM := hid hm
 clear hr hu h hf hm hlv
 go_enter Tryz.func116, Tryz.ntmps116
 go_upto_region 1 with (fail)
 obtain ⟨X5, hX5⟩ : ∃ X, X = w.heap.size := ⟨_, rfl⟩
 have R0 := hid r0
 have HB0 := hid b0
 rw [← hX5] at R0 ⊢
 have HX5 := hid hX5
 clear r0 b0 hX5
 simp only [List.toArray] at *
 generalize w.alloc (.cells #[.int .i64 (m : Int), .int .i64 (f : Int), .int .u64 (fr.toNat : Int), .int .u64 (tt.toNat : Int)] 187) = w1 at *
 go_wp2_with fail
 refine (fnode_any HF.out H0.out z u HU.out).mono ?_
 rintro e w2 ⟨K, k, V, v, rfl, hnd, B2, nK, nV⟩
 have HB2 := hid (HB0.out.trans (B2.mono HB0.out.size))
 have R2 := hid (R0.out.below R0.out.lt B2)
 have H2 := hid (H0.out.below B2)
 have r3 := alloc_rowV w2 107 [.bool u.l, .slice K u.ks.length k, .slice V u.vs.length v]
 have b3 := (Below.refl w2.heap.size w2).alloc (Nat.le_refl _) (.cells #[.bool u.l, .slice K u.ks.length k, .slice V u.vs.length v] 107)
 have HN := hid hnd
 clear B2 R0 H0 hnd nK nV
 go_upto_region 2 with (fail)
 obtain ⟨X7, hX7⟩ : ∃ X, X = w2.heap.size := ⟨_, rfl⟩
 have R7 := hid r3
 have HB3 := hid (HB2.out.trans (b3.mono HB2.out.size))
 have R5 := hid (R2.out.below R2.out.lt b3)
 have HND := hid (HN.out.below b3)
 have H3 := hid (H2.out.below b3)
 rw [← hX7] at R7 ⊢
 clear r3 b3 hX7 HB2 R2 HN H2
 simp only [List.toArray] at *
 generalize w2.alloc (.cells #[.bool u.l, .slice K u.ks.length k, .slice V u.vs.length v] 107) = w3 at *
 by_cases he : u.e = 0
 ·have hfit : Fit u.l u.ks u.vs := by rw [HU.out]; exact nodeR_fit (by rw [← HU.out]; exact he)
  have HFT := hid hfit
  have heb : ((u.e : Nat) : Int) = 0 := by omega
  rw [heb]
  have c50 := R5.out.cellAt (i := 0) rfl
  have c51 := R5.out.cellAt (i := 1) rfl
  have c52 := R5.out.cellAt (i := 2) rfl
  have c53 := R5.out.cellAt (i := 3) rfl
  have c70 := R7.out.cellAt (i := 0) rfl
  have c71 := R7.out.cellAt (i := 1) rfl
  have c72 := R7.out.cellAt (i := 2) rfl
  go_wp2_with fail
  refine (fits_any u.l HND.out m f fr tt hl8 h7 hfit.1 _ rfl).mono ?_
  rintro e w4 ⟨rfl, B4⟩
  have HB4 := hid (HB3.out.trans (B4.mono HB3.out.size))
  have R5' := hid (R5.out.below R5.out.lt B4)
  have R7' := hid (R7.out.below R7.out.lt B4)
  have HN4 := hid (HND.out.below B4)
  have H4 := hid (H3.out.below B4)
  clear B4 HB3 R5 R7 HND H3 c50 c51 c52 c53 c70 c71 c72 hfit
  cases hft : fitsR u.l u.ks m f fr tt with
  | false =>
   go_wp2_with fail
   go_ret
   exact ⟨by rw [HR.out, hft, decide_eq_true he]; rfl, HB4.out⟩
  | true =>
   have HR2 := hid (show r = (u.l || (List.range u.vs.length).all fun i => rightF x n lv (IntKind.i64.wrap ((u.vs.getD i 0).toNat : Int)) 3 (u.ks.getD i 0) (lastR u.ks i tt)) by rw [HR.out, hft, decide_eq_true he]; rfl)
   have HFS := hid hft
   clear HR hft
   have c7 := R7'.out.cellAt (i := 0) rfl
   by_cases hl : u.l = true
   ·go_wp2_with fail
    go_ret
    exact ⟨by rw [HR2.out, hl]; rfl, HB4.out⟩
   ·have hlf : u.l = false := by cases hq : u.l; rfl; exact absurd hq hl
    have HL2 := hid (show 1 ≤ lv ∧ lv ≤ 8 by
     have := HFS.out
     unfold fitsR at this
     simp only [Bool.and_eq_true, decide_eq_true_eq] at this
     have h1 := this.1.1.1
     rw [hlf] at h1
     have h2 : ¬ m = 1 := fun q => by rw [decide_eq_true q] at h1; cases h1
     have := HM.out
     omega)
    have HFT0 := hid (show Fit false u.ks u.vs by rw [← hlf]; exact HFT.out)
    have HR3 := hid (show r = (List.range u.vs.length).all fun i => rightF x n lv (IntKind.i64.wrap ((u.vs.getD i 0).toNat : Int)) 3 (u.ks.getD i 0) (lastR u.ks i tt) by rw [HR2.out, hlf]; rfl)
    have hvk : u.vs.length = u.ks.length := HFT0.out.2.1
    have hk7 : u.ks.length ≤ 7 := HFT0.out.1
    have HVK := hid (And.intro hvk hk7)
    have c8 := R7'.out.cellAt (i := 2) rfl
    clear hl hvk hk7 HR2 HFS HFT
    go_wp2_with fail
    go_loopw [30] (fun i wr => ∃ j : Nat, j ≤ u.vs.length ∧ i = .int .i64 (j : Int) ∧ (∀ t, t < j → rightF x n lv (IntKind.i64.wrap ((u.vs.getD t 0).toNat : Int)) 3 (u.ks.getD t 0) (lastR u.ks t tt) = true) ∧ Hid (Below w4.heap.size w4 wr)) (fun i _ => u.vs.length - (Go.RowKit.intOf i).toNat)
    case atStart => exact ⟨0, Nat.zero_le _, rfl, fun t ht => absurd ht (Nat.not_lt_zero t), hid (Below.refl _ _)⟩
    case round =>
     obtain ⟨j, hj, rfl, hall, HBr⟩ := hrel
     have HALL := hid hall
     clear hall
     by_cases hlt : j < u.vs.length
     ·have hji : (j : Int) < (u.vs.length : Int) := by omega
      have hj0 : (0 : Int) ≤ (j : Int) := by omega
      have HN5 := hid (HN4.out.below HBr.out)
      obtain ⟨bV, oV, eV, hV⟩ : ∃ b o, V = some ⟨b, o, none⟩ ∧ Lf.HasN wr b o u.vs := by
       rcases HN5.out.vs with q | q
       ·rw [q] at hlt
        simp at hlt
       ·exact q
      subst eV
      have hcell := hV j hlt
      obtain ⟨vv, hvv⟩ : ∃ vv, vv = u.vs[j] := ⟨_, rfl⟩
      rw [← hvv] at hcell
      have HVV := hid (show u.vs.getD j 0 = vv from by rw [hvv, List.getD_eq_getElem?_getD, List.getElem?_eq_getElem hlt]; rfl)
      obtain ⟨bK, oK, eK, hK⟩ : ∃ b o, K = some ⟨b, o, none⟩ ∧ Lf.HasN wr b o u.ks := by
       rcases HN5.out.ks with q | q
       ·have h1 := HVK.out.1
        have h2 : u.ks.length = 0 := by rw [q]; rfl
        omega
       ·exact q
      subst eK
      have hltk : j < u.ks.length := by have := HVK.out.1; omega
      obtain ⟨kk, hkk⟩ : ∃ kk, kk = u.ks[j] := ⟨_, rfl⟩
      have HKK := hid (And.intro (show u.ks.getD j 0 = kk from by rw [hkk, List.getD_eq_getElem?_getD, List.getElem?_eq_getElem hltk]; rfl) hkk.symm)
      have HKC := hid hK
      have HLT := hid hltk
      clear hvv hV hkk hK
      go_upto_region 9 with (fail)
      clear hcell
      have R5r := hid (R5'.out.below R5'.out.lt HBr.out)
      have R7r := hid (show RowV wr X7 107 [.bool false, .slice (some ⟨bK, oK, none⟩) u.ks.length k, .slice (some ⟨bV, oV, none⟩) u.vs.length v] by
       have h := R7'.out.below R7'.out.lt HBr.out
       rw [hlf] at h
       exact h)
      obtain ⟨kz7, hkz7⟩ : ∃ q, q = rightF x n lv (IntKind.i64.wrap (vv.toNat : Int)) 3 kk (lastR u.ks j tt) := ⟨_, rfl⟩
      have HQ := hid (And.intro hkz7 (show kz7 = rightF x n lv (IntKind.i64.wrap ((u.vs.getD j 0).toNat : Int)) 3 (u.ks.getD j 0) (lastR u.ks j tt) by rw [hkz7, HVV.out, HKK.out.1]))
      have HG1 := hid (show IntKind.i64.wrap ((m : Int) - 1) = (lv : Int) by rw [HM.out, show ((lv + 1 : Nat) : Int) - 1 = (lv : Int) by omega]; exact wrap_i64 (by omega) (by have := HL2.out.2; omega))
      have HG2 := hid (show (j : Int) < (u.ks.length : Int) ∧ (0 : Int) ≤ (j : Int) ∧ j < u.ks.length by omega)
      have HV4 := hid (show vv.toNat < 4096 by rw [← HVV.out]; exact kid_small HFT0.out hlt)
      clear hkz7 hji hj0
      have Hr := hid (H4.out.below HBr.out)
      refine Inv2.wp_region_inv (fun b a wy => ∃ (zz : Nat → Value), a = ⟨(List.toArray (Value.pointer (some ⟨A.b, 0, none⟩) :: Value.int IntKind.i64 z :: Value.agg (Array.mk [Value.int IntKind.i64 ↑m, Value.int IntKind.i64 ↑f, Value.int IntKind.u64 ↑fr.toNat, Value.int IntKind.u64 ↑tt.toNat]) :: undef :: undef :: Value.pointer (some ⟨X5, 0, none⟩) :: u6 :: Value.pointer (some ⟨X7, 0, none⟩) :: Value.int IntKind.i64 0 :: Value.int IntKind.i64 ↑j :: Value.int IntKind.u64 ↑vv.toNat :: Value.tuple (Array.mk [Value.agg (Array.mk [Value.bool false, Value.slice (some ⟨bK, oK, none⟩) u.ks.length k, Value.slice (some ⟨bV, oV, none⟩) u.vs.length v]), Value.int IntKind.i64 0]) :: Value.pointer (some ⟨A.b, 0, none⟩) :: Value.int IntKind.i64 z :: Value.tuple (Array.mk [Value.agg (Array.mk [Value.bool false, Value.slice (some ⟨bK, oK, none⟩) u.ks.length k, Value.slice (some ⟨bV, oV, none⟩) u.vs.length v]), Value.int IntKind.i64 0]) :: Value.agg (Array.mk [Value.bool false, Value.slice (some ⟨bK, oK, none⟩) u.ks.length k, Value.slice (some ⟨bV, oV, none⟩) u.vs.length v]) :: Value.int IntKind.i64 0 :: Value.int IntKind.i64 0 :: Value.bool false :: Value.bool false :: Value.agg #[Value.int IntKind.i64 ↑m, Value.int IntKind.i64 ↑f, Value.int IntKind.u64 ↑fr.toNat, Value.int IntKind.u64 ↑tt.toNat] :: Value.agg #[Value.bool false, Value.slice (some ⟨bK, oK, none⟩) u.ks.length k, Value.slice (some ⟨bV, oV, none⟩) u.vs.length v] :: Value.bool true :: Value.bool false :: Value.bool false :: Value.pointer (some ⟨X7, 0, none⟩) :: Value.bool false :: Value.pointer (some ⟨X7, 2, none⟩) :: Value.slice (some ⟨bV, oV, none⟩) u.vs.length v :: Value.int IntKind.i64 ↑u.vs.length :: Value.int IntKind.i64 ↑j :: Value.bool true :: Value.int IntKind.i64 ↑j :: Value.pointer (some ⟨bV, oV + j, none⟩) :: Value.int IntKind.u64 ↑vv.toNat :: (zz 35) :: (zz 36) :: (zz 37) :: (zz 38) :: (zz 39) :: (zz 40) :: (zz 41) :: (zz 42) :: (zz 43) :: (zz 44) :: (zz 45) :: (zz 46) :: (zz 47) :: (zz 48) :: (zz 49) :: (zz 50) :: (zz 51) :: (zz 52) :: (zz 53) :: u54 :: [])), []⟩ ∧ Hid ((b 0 = true → (zz 35) = Value.pointer (some ⟨A.b, 0, none⟩)) ∧ (b 1 = true → (zz 36) = Value.int IntKind.u64 ↑vv.toNat) ∧ (b 2 = true → (zz 37) = .int .i64 (IntKind.i64.wrap (vv.toNat : Int))) ∧ (b 3 = true → (zz 38) = .pointer (some ⟨X5, 0, none⟩)) ∧ (b 4 = true → (zz 39) = .int .i64 (m : Int)) ∧ (b 5 = true → (zz 40) = .int .i64 (lv : Int)) ∧ (b 6 = true → (zz 41) = .pointer (some ⟨X7, 1, none⟩)) ∧ (b 7 = true → (zz 42) = .slice (some ⟨bK, oK, none⟩) u.ks.length k) ∧ (b 8 = true → (zz 43) = Value.int IntKind.i64 ↑j) ∧ (b 9 = true → (zz 44) = .pointer (some ⟨bK, oK + j, none⟩)) ∧ (b 10 = true → (zz 45) = .int .u64 (kk.toNat : Int)) ∧ (b 11 = true → (zz 46) = .agg #[.bool false, .slice (some ⟨bK, oK, none⟩) u.ks.length k, .slice (some ⟨bV, oV, none⟩) u.vs.length v]) ∧ (b 12 = true → (zz 47) = Value.int IntKind.i64 ↑j) ∧ (b 13 = true → (zz 48) = .pointer (some ⟨X5, 3, none⟩)) ∧ (b 14 = true → (zz 49) = .int .u64 (tt.toNat : Int)) ∧ (b 15 = true → (zz 50) = .int .u64 ((lastR u.ks j tt).toNat : Int)) ∧ (b 16 = true → (zz 51) = .agg #[.int .i64 (lv : Int), .int .i64 3, .int .u64 (kk.toNat : Int), .int .u64 ((lastR u.ks j tt).toNat : Int)]) ∧ (b 17 = true → (zz 52) = .bool kz7) ∧ (b 18 = true → (zz 53) = .bool (!kz7))) ∧ Hid (Below wr.heap.size wr wy)) (by kernel_rfl) (by kernel_rfl) ?startD ?stepsD ?doneD
      case startD =>
       intro b hb
       refine ⟨fun s => if s = 35 then u35 else if s = 36 then u36 else if s = 37 then u37 else if s = 38 then u38 else if s = 39 then u39 else if s = 40 then u40 else if s = 41 then u41 else if s = 42 then u42 else if s = 43 then u43 else if s = 44 then u44 else if s = 45 then u45 else if s = 46 then u46 else if s = 47 then u47 else if s = 48 then u48 else if s = 49 then u49 else if s = 50 then u50 else if s = 51 then u51 else if s = 52 then u52 else if s = 53 then u53 else undef, rfl, hid ⟨?_, ?_, ?_, ?_, ?_, ?_, ?_, ?_, ?_, ?_, ?_, ?_, ?_, ?_, ?_, ?_, ?_, ?_, ?_⟩, hid ((show Still wr wr.drew from ⟨rfl, rfl, rfl, rfl⟩).below _)⟩
       all_goals (intro e; first | rfl | (rw [hb _ (by decide)] at e; cases e))
      case stepsD =>
       refine ⟨?_, ?_, ?_, ?_, ?_, ?_, ?_, ?_, ?_, ?_, ?_, ?_, ?_, ?_, ?_, ?_, ?_, ?_, ?_, trivial⟩
       ·rintro b a wy hb hd ⟨zz, rfl, HV, HW⟩ K hK
        clear hd
        go_simp
        have V := HV.out
        have V10 := V.2.2.2.2.2.2.2.2.2.2
        exact hK _ _ ⟨fun s => if s = 35 then Value.pointer (some ⟨A.b, 0, none⟩) else zz s, rfl, hid ⟨fun _ => rfl, V.2.1, V.2.2.1, V.2.2.2.1, V.2.2.2.2.1, V.2.2.2.2.2.1, V.2.2.2.2.2.2.1, V.2.2.2.2.2.2.2.1, V.2.2.2.2.2.2.2.2.1, V.2.2.2.2.2.2.2.2.2.1, V10.1, V10.2.1, V10.2.2.1, V10.2.2.2.1, V10.2.2.2.2.1, V10.2.2.2.2.2.1, V10.2.2.2.2.2.2.1, V10.2.2.2.2.2.2.2.1, V10.2.2.2.2.2.2.2.2⟩, HW⟩
       ·rintro b a wy hb hd ⟨zz, rfl, HV, HW⟩ K hK
        clear hd
        go_simp
        have V := HV.out
        have V10 := V.2.2.2.2.2.2.2.2.2.2
        exact hK _ _ ⟨fun s => if s = 36 then Value.int IntKind.u64 ↑vv.toNat else zz s, rfl, hid ⟨V.1, fun _ => rfl, V.2.2.1, V.2.2.2.1, V.2.2.2.2.1, V.2.2.2.2.2.1, V.2.2.2.2.2.2.1, V.2.2.2.2.2.2.2.1, V.2.2.2.2.2.2.2.2.1, V.2.2.2.2.2.2.2.2.2.1, V10.1, V10.2.1, V10.2.2.1, V10.2.2.2.1, V10.2.2.2.2.1, V10.2.2.2.2.2.1, V10.2.2.2.2.2.2.1, V10.2.2.2.2.2.2.2.1, V10.2.2.2.2.2.2.2.2⟩, HW⟩
       ·rintro b a wy hb hd ⟨zz, rfl, HV, HW⟩ K hK
        simp [Region.binds] at hd
        have e1 : (zz 36) = Value.int IntKind.u64 ↑vv.toNat := (HV.out.2.1) (by simp [hd])
        clear hd
        go_simp
        have V := HV.out
        have V10 := V.2.2.2.2.2.2.2.2.2.2
        exact hK _ _ ⟨fun s => if s = 37 then .int .i64 (IntKind.i64.wrap (vv.toNat : Int)) else if s = 36 then Value.int IntKind.u64 ↑vv.toNat else zz s, rfl, hid ⟨V.1, fun _ => rfl, fun _ => rfl, V.2.2.2.1, V.2.2.2.2.1, V.2.2.2.2.2.1, V.2.2.2.2.2.2.1, V.2.2.2.2.2.2.2.1, V.2.2.2.2.2.2.2.2.1, V.2.2.2.2.2.2.2.2.2.1, V10.1, V10.2.1, V10.2.2.1, V10.2.2.2.1, V10.2.2.2.2.1, V10.2.2.2.2.2.1, V10.2.2.2.2.2.2.1, V10.2.2.2.2.2.2.2.1, V10.2.2.2.2.2.2.2.2⟩, HW⟩
       ·rintro b a wy hb hd ⟨zz, rfl, HV, HW⟩ K hK
        clear hd
        go_simp
        have V := HV.out
        have V10 := V.2.2.2.2.2.2.2.2.2.2
        exact hK _ _ ⟨fun s => if s = 38 then .pointer (some ⟨X5, 0, none⟩) else zz s, rfl, hid ⟨V.1, V.2.1, V.2.2.1, fun _ => rfl, V.2.2.2.2.1, V.2.2.2.2.2.1, V.2.2.2.2.2.2.1, V.2.2.2.2.2.2.2.1, V.2.2.2.2.2.2.2.2.1, V.2.2.2.2.2.2.2.2.2.1, V10.1, V10.2.1, V10.2.2.1, V10.2.2.2.1, V10.2.2.2.2.1, V10.2.2.2.2.2.1, V10.2.2.2.2.2.2.1, V10.2.2.2.2.2.2.2.1, V10.2.2.2.2.2.2.2.2⟩, HW⟩
       ·rintro b a wy hb hd ⟨zz, rfl, HV, HW⟩ K hK
        simp [Region.binds] at hd
        have e3 : (zz 38) = .pointer (some ⟨X5, 0, none⟩) := (HV.out.2.2.2.1) (by simp [hd])
        clear hd
        have hrw := R5r.out.below R5r.out.lt HW.out
        have q := hrw.cellAt (i := 0) rfl
        clear hrw
        go_simp
        have V := HV.out
        have V10 := V.2.2.2.2.2.2.2.2.2.2
        exact hK _ _ ⟨fun s => if s = 39 then .int .i64 (m : Int) else if s = 38 then .pointer (some ⟨X5, 0, none⟩) else zz s, rfl, hid ⟨V.1, V.2.1, V.2.2.1, fun _ => rfl, fun _ => rfl, V.2.2.2.2.2.1, V.2.2.2.2.2.2.1, V.2.2.2.2.2.2.2.1, V.2.2.2.2.2.2.2.2.1, V.2.2.2.2.2.2.2.2.2.1, V10.1, V10.2.1, V10.2.2.1, V10.2.2.2.1, V10.2.2.2.2.1, V10.2.2.2.2.2.1, V10.2.2.2.2.2.2.1, V10.2.2.2.2.2.2.2.1, V10.2.2.2.2.2.2.2.2⟩, HW⟩
       ·rintro b a wy hb hd ⟨zz, rfl, HV, HW⟩ K hK
        simp [Region.binds] at hd
        have e4 : (zz 39) = .int .i64 (m : Int) := (HV.out.2.2.2.2.1) (by simp [hd])
        clear hd
        have g1 := HG1.out
        go_simp
        have V := HV.out
        have V10 := V.2.2.2.2.2.2.2.2.2.2
        exact hK _ _ ⟨fun s => if s = 40 then .int .i64 (lv : Int) else if s = 39 then .int .i64 (m : Int) else zz s, rfl, hid ⟨V.1, V.2.1, V.2.2.1, V.2.2.2.1, fun _ => rfl, fun _ => rfl, V.2.2.2.2.2.2.1, V.2.2.2.2.2.2.2.1, V.2.2.2.2.2.2.2.2.1, V.2.2.2.2.2.2.2.2.2.1, V10.1, V10.2.1, V10.2.2.1, V10.2.2.2.1, V10.2.2.2.2.1, V10.2.2.2.2.2.1, V10.2.2.2.2.2.2.1, V10.2.2.2.2.2.2.2.1, V10.2.2.2.2.2.2.2.2⟩, HW⟩
       ·rintro b a wy hb hd ⟨zz, rfl, HV, HW⟩ K hK
        clear hd
        go_simp
        have V := HV.out
        have V10 := V.2.2.2.2.2.2.2.2.2.2
        exact hK _ _ ⟨fun s => if s = 41 then .pointer (some ⟨X7, 1, none⟩) else zz s, rfl, hid ⟨V.1, V.2.1, V.2.2.1, V.2.2.2.1, V.2.2.2.2.1, V.2.2.2.2.2.1, fun _ => rfl, V.2.2.2.2.2.2.2.1, V.2.2.2.2.2.2.2.2.1, V.2.2.2.2.2.2.2.2.2.1, V10.1, V10.2.1, V10.2.2.1, V10.2.2.2.1, V10.2.2.2.2.1, V10.2.2.2.2.2.1, V10.2.2.2.2.2.2.1, V10.2.2.2.2.2.2.2.1, V10.2.2.2.2.2.2.2.2⟩, HW⟩
       ·rintro b a wy hb hd ⟨zz, rfl, HV, HW⟩ K hK
        simp [Region.binds] at hd
        have e6 : (zz 41) = .pointer (some ⟨X7, 1, none⟩) := (HV.out.2.2.2.2.2.2.1) (by simp [hd])
        clear hd
        have hrw := R7r.out.below R7r.out.lt HW.out
        have q := hrw.cellAt (i := 1) rfl
        clear hrw
        go_simp
        have V := HV.out
        have V10 := V.2.2.2.2.2.2.2.2.2.2
        exact hK _ _ ⟨fun s => if s = 42 then .slice (some ⟨bK, oK, none⟩) u.ks.length k else if s = 41 then .pointer (some ⟨X7, 1, none⟩) else zz s, rfl, hid ⟨V.1, V.2.1, V.2.2.1, V.2.2.2.1, V.2.2.2.2.1, V.2.2.2.2.2.1, fun _ => rfl, fun _ => rfl, V.2.2.2.2.2.2.2.2.1, V.2.2.2.2.2.2.2.2.2.1, V10.1, V10.2.1, V10.2.2.1, V10.2.2.2.1, V10.2.2.2.2.1, V10.2.2.2.2.2.1, V10.2.2.2.2.2.2.1, V10.2.2.2.2.2.2.2.1, V10.2.2.2.2.2.2.2.2⟩, HW⟩
       ·rintro b a wy hb hd ⟨zz, rfl, HV, HW⟩ K hK
        clear hd
        go_simp
        have V := HV.out
        have V10 := V.2.2.2.2.2.2.2.2.2.2
        exact hK _ _ ⟨fun s => if s = 43 then Value.int IntKind.i64 ↑j else zz s, rfl, hid ⟨V.1, V.2.1, V.2.2.1, V.2.2.2.1, V.2.2.2.2.1, V.2.2.2.2.2.1, V.2.2.2.2.2.2.1, V.2.2.2.2.2.2.2.1, fun _ => rfl, V.2.2.2.2.2.2.2.2.2.1, V10.1, V10.2.1, V10.2.2.1, V10.2.2.2.1, V10.2.2.2.2.1, V10.2.2.2.2.2.1, V10.2.2.2.2.2.2.1, V10.2.2.2.2.2.2.2.1, V10.2.2.2.2.2.2.2.2⟩, HW⟩
       ·rintro b a wy hb hd ⟨zz, rfl, HV, HW⟩ K hK
        simp [Region.binds] at hd
        have e7 : (zz 42) = .slice (some ⟨bK, oK, none⟩) u.ks.length k := (HV.out.2.2.2.2.2.2.2.1) (by simp [hd])
        have e8 : (zz 43) = Value.int IntKind.i64 ↑j := (HV.out.2.2.2.2.2.2.2.2.1) (by simp [hd])
        clear hd
        have g1 := HG2.out.1
        have g2 := HG2.out.2.1
        have g3 := HG2.out.2.2
        go_simp
        have V := HV.out
        have V10 := V.2.2.2.2.2.2.2.2.2.2
        exact hK _ _ ⟨fun s => if s = 44 then .pointer (some ⟨bK, oK + j, none⟩) else if s = 42 then .slice (some ⟨bK, oK, none⟩) u.ks.length k else if s = 43 then Value.int IntKind.i64 ↑j else zz s, rfl, hid ⟨V.1, V.2.1, V.2.2.1, V.2.2.2.1, V.2.2.2.2.1, V.2.2.2.2.2.1, V.2.2.2.2.2.2.1, fun _ => rfl, fun _ => rfl, fun _ => rfl, V10.1, V10.2.1, V10.2.2.1, V10.2.2.2.1, V10.2.2.2.2.1, V10.2.2.2.2.2.1, V10.2.2.2.2.2.2.1, V10.2.2.2.2.2.2.2.1, V10.2.2.2.2.2.2.2.2⟩, HW⟩
       ·rintro b a wy hb hd ⟨zz, rfl, HV, HW⟩ K hK
        simp [Region.binds] at hd
        have e9 : (zz 44) = .pointer (some ⟨bK, oK + j, none⟩) := (HV.out.2.2.2.2.2.2.2.2.2.1) (by simp [hd])
        clear hd
        have hcell := (HKC.out.below (HKC.out.lt (by have := HG2.out.2.2; omega)) HW.out) j HG2.out.2.2
        rw [show u.ks[j]'HG2.out.2.2 = kk from HKK.out.2] at hcell
        go_simp
        have V := HV.out
        have V10 := V.2.2.2.2.2.2.2.2.2.2
        exact hK _ _ ⟨fun s => if s = 45 then .int .u64 (kk.toNat : Int) else if s = 44 then .pointer (some ⟨bK, oK + j, none⟩) else zz s, rfl, hid ⟨V.1, V.2.1, V.2.2.1, V.2.2.2.1, V.2.2.2.2.1, V.2.2.2.2.2.1, V.2.2.2.2.2.2.1, V.2.2.2.2.2.2.2.1, V.2.2.2.2.2.2.2.2.1, fun _ => rfl, fun _ => rfl, V10.2.1, V10.2.2.1, V10.2.2.2.1, V10.2.2.2.2.1, V10.2.2.2.2.2.1, V10.2.2.2.2.2.2.1, V10.2.2.2.2.2.2.2.1, V10.2.2.2.2.2.2.2.2⟩, HW⟩
       ·rintro b a wy hb hd ⟨zz, rfl, HV, HW⟩ K hK
        clear hd
        have hrw := R7r.out.below R7r.out.lt HW.out
        have q0 := hrw.cellAt (i := 0) rfl
        have q1 := hrw.cellAt (i := 1) rfl
        have q2 := hrw.cellAt (i := 2) rfl
        clear hrw
        go_simp
        have V := HV.out
        have V10 := V.2.2.2.2.2.2.2.2.2.2
        exact hK _ _ ⟨fun s => if s = 46 then .agg #[.bool false, .slice (some ⟨bK, oK, none⟩) u.ks.length k, .slice (some ⟨bV, oV, none⟩) u.vs.length v] else zz s, rfl, hid ⟨V.1, V.2.1, V.2.2.1, V.2.2.2.1, V.2.2.2.2.1, V.2.2.2.2.2.1, V.2.2.2.2.2.2.1, V.2.2.2.2.2.2.2.1, V.2.2.2.2.2.2.2.2.1, V.2.2.2.2.2.2.2.2.2.1, V10.1, fun _ => rfl, V10.2.2.1, V10.2.2.2.1, V10.2.2.2.2.1, V10.2.2.2.2.2.1, V10.2.2.2.2.2.2.1, V10.2.2.2.2.2.2.2.1, V10.2.2.2.2.2.2.2.2⟩, HW⟩
       ·rintro b a wy hb hd ⟨zz, rfl, HV, HW⟩ K hK
        clear hd
        go_simp
        have V := HV.out
        have V10 := V.2.2.2.2.2.2.2.2.2.2
        exact hK _ _ ⟨fun s => if s = 47 then Value.int IntKind.i64 ↑j else zz s, rfl, hid ⟨V.1, V.2.1, V.2.2.1, V.2.2.2.1, V.2.2.2.2.1, V.2.2.2.2.2.1, V.2.2.2.2.2.2.1, V.2.2.2.2.2.2.2.1, V.2.2.2.2.2.2.2.2.1, V.2.2.2.2.2.2.2.2.2.1, V10.1, V10.2.1, fun _ => rfl, V10.2.2.2.1, V10.2.2.2.2.1, V10.2.2.2.2.2.1, V10.2.2.2.2.2.2.1, V10.2.2.2.2.2.2.2.1, V10.2.2.2.2.2.2.2.2⟩, HW⟩
       ·rintro b a wy hb hd ⟨zz, rfl, HV, HW⟩ K hK
        clear hd
        go_simp
        have V := HV.out
        have V10 := V.2.2.2.2.2.2.2.2.2.2
        exact hK _ _ ⟨fun s => if s = 48 then .pointer (some ⟨X5, 3, none⟩) else zz s, rfl, hid ⟨V.1, V.2.1, V.2.2.1, V.2.2.2.1, V.2.2.2.2.1, V.2.2.2.2.2.1, V.2.2.2.2.2.2.1, V.2.2.2.2.2.2.2.1, V.2.2.2.2.2.2.2.2.1, V.2.2.2.2.2.2.2.2.2.1, V10.1, V10.2.1, V10.2.2.1, fun _ => rfl, V10.2.2.2.2.1, V10.2.2.2.2.2.1, V10.2.2.2.2.2.2.1, V10.2.2.2.2.2.2.2.1, V10.2.2.2.2.2.2.2.2⟩, HW⟩
       ·rintro b a wy hb hd ⟨zz, rfl, HV, HW⟩ K hK
        simp [Region.binds] at hd
        have e13 : (zz 48) = .pointer (some ⟨X5, 3, none⟩) := (HV.out.2.2.2.2.2.2.2.2.2.2.2.2.2.1) (by simp [hd])
        clear hd
        have hrw := R5r.out.below R5r.out.lt HW.out
        have q := hrw.cellAt (i := 3) rfl
        clear hrw
        go_simp
        have V := HV.out
        have V10 := V.2.2.2.2.2.2.2.2.2.2
        exact hK _ _ ⟨fun s => if s = 49 then .int .u64 (tt.toNat : Int) else if s = 48 then .pointer (some ⟨X5, 3, none⟩) else zz s, rfl, hid ⟨V.1, V.2.1, V.2.2.1, V.2.2.2.1, V.2.2.2.2.1, V.2.2.2.2.2.1, V.2.2.2.2.2.2.1, V.2.2.2.2.2.2.2.1, V.2.2.2.2.2.2.2.2.1, V.2.2.2.2.2.2.2.2.2.1, V10.1, V10.2.1, V10.2.2.1, fun _ => rfl, fun _ => rfl, V10.2.2.2.2.2.1, V10.2.2.2.2.2.2.1, V10.2.2.2.2.2.2.2.1, V10.2.2.2.2.2.2.2.2⟩, HW⟩
       ·rintro b a wy hb hd ⟨zz, rfl, HV, HW⟩ K hK
        simp [Region.binds] at hd
        have e11 : (zz 46) = .agg #[.bool false, .slice (some ⟨bK, oK, none⟩) u.ks.length k, .slice (some ⟨bV, oV, none⟩) u.vs.length v] := (HV.out.2.2.2.2.2.2.2.2.2.2.2.1) (by simp [hd])
        have e12 : (zz 47) = Value.int IntKind.i64 ↑j := (HV.out.2.2.2.2.2.2.2.2.2.2.2.2.1) (by simp [hd])
        have e14 : (zz 49) = .int .u64 (tt.toNat : Int) := (HV.out.2.2.2.2.2.2.2.2.2.2.2.2.2.2.1) (by simp [hd])
        clear hd
        go_simp
        go_at_call 170
        refine (last_any false (HN5.out.below HW.out) j tt HG2.out.2.2 HVK.out.2 (rises_one HFT0.out)).mono ?_
        rintro e wz ⟨rfl, kz⟩
        try go_simp
        have V := HV.out
        have V10 := V.2.2.2.2.2.2.2.2.2.2
        exact hK _ _ ⟨fun s => if s = 50 then .int .u64 ((lastR u.ks j tt).toNat : Int) else if s = 46 then .agg #[.bool false, .slice (some ⟨bK, oK, none⟩) u.ks.length k, .slice (some ⟨bV, oV, none⟩) u.vs.length v] else if s = 47 then Value.int IntKind.i64 ↑j else if s = 49 then .int .u64 (tt.toNat : Int) else zz s, rfl, hid ⟨V.1, V.2.1, V.2.2.1, V.2.2.2.1, V.2.2.2.2.1, V.2.2.2.2.2.1, V.2.2.2.2.2.2.1, V.2.2.2.2.2.2.2.1, V.2.2.2.2.2.2.2.2.1, V.2.2.2.2.2.2.2.2.2.1, V10.1, fun _ => rfl, fun _ => rfl, V10.2.2.2.1, fun _ => rfl, fun _ => rfl, V10.2.2.2.2.2.2.1, V10.2.2.2.2.2.2.2.1, V10.2.2.2.2.2.2.2.2⟩, hid (HW.out.trans (kz.mono HW.out.size))⟩
       ·rintro b a wy hb hd ⟨zz, rfl, HV, HW⟩ K hK
        simp [Region.binds] at hd
        have e5 : (zz 40) = .int .i64 (lv : Int) := (HV.out.2.2.2.2.2.1) (by simp [hd])
        have e10 : (zz 45) = .int .u64 (kk.toNat : Int) := (HV.out.2.2.2.2.2.2.2.2.2.2.1) (by simp [hd])
        have e15 : (zz 50) = .int .u64 ((lastR u.ks j tt).toNat : Int) := (HV.out.2.2.2.2.2.2.2.2.2.2.2.2.2.2.2.1) (by simp [hd])
        clear hd
        go_simp
        have V := HV.out
        have V10 := V.2.2.2.2.2.2.2.2.2.2
        exact hK _ _ ⟨fun s => if s = 51 then .agg #[.int .i64 (lv : Int), .int .i64 3, .int .u64 (kk.toNat : Int), .int .u64 ((lastR u.ks j tt).toNat : Int)] else if s = 40 then .int .i64 (lv : Int) else if s = 45 then .int .u64 (kk.toNat : Int) else if s = 50 then .int .u64 ((lastR u.ks j tt).toNat : Int) else zz s, rfl, hid ⟨V.1, V.2.1, V.2.2.1, V.2.2.2.1, V.2.2.2.2.1, fun _ => rfl, V.2.2.2.2.2.2.1, V.2.2.2.2.2.2.2.1, V.2.2.2.2.2.2.2.2.1, V.2.2.2.2.2.2.2.2.2.1, fun _ => rfl, V10.2.1, V10.2.2.1, V10.2.2.2.1, V10.2.2.2.2.1, fun _ => rfl, fun _ => rfl, V10.2.2.2.2.2.2.2.1, V10.2.2.2.2.2.2.2.2⟩, HW⟩
       ·rintro b a wy hb hd ⟨zz, rfl, HV, HW⟩ K hK
        simp [Region.binds] at hd
        have e0 : (zz 35) = Value.pointer (some ⟨A.b, 0, none⟩) := (HV.out.1) (by simp [hd])
        have e2 : (zz 37) = .int .i64 (IntKind.i64.wrap (vv.toNat : Int)) := (HV.out.2.2.1) (by simp [hd])
        have e16 : (zz 51) = .agg #[.int .i64 (lv : Int), .int .i64 3, .int .u64 (kk.toNat : Int), .int .u64 ((lastR u.ks j tt).toNat : Int)] := (HV.out.2.2.2.2.2.2.2.2.2.2.2.2.2.2.2.2.1) (by simp [hd])
        clear hd
        go_simp
        go_at_call 116
        refine (IH.out wy (Hr.out.below HW.out) HL2.out (IntKind.i64.wrap (vv.toNat : Int)) (by have h4 := HV4.out; rw [wrap_i64 (by omega) (by omega)]; omega) 3 (by omega) kk (lastR u.ks j tt) kz7 HQ.out.1).mono ?_
        rintro e wz ⟨rfl, kz⟩
        try go_simp
        have V := HV.out
        have V10 := V.2.2.2.2.2.2.2.2.2.2
        exact hK _ _ ⟨fun s => if s = 52 then .bool kz7 else if s = 35 then Value.pointer (some ⟨A.b, 0, none⟩) else if s = 37 then .int .i64 (IntKind.i64.wrap (vv.toNat : Int)) else if s = 51 then .agg #[.int .i64 (lv : Int), .int .i64 3, .int .u64 (kk.toNat : Int), .int .u64 ((lastR u.ks j tt).toNat : Int)] else zz s, rfl, hid ⟨fun _ => rfl, V.2.1, fun _ => rfl, V.2.2.2.1, V.2.2.2.2.1, V.2.2.2.2.2.1, V.2.2.2.2.2.2.1, V.2.2.2.2.2.2.2.1, V.2.2.2.2.2.2.2.2.1, V.2.2.2.2.2.2.2.2.2.1, V10.1, V10.2.1, V10.2.2.1, V10.2.2.2.1, V10.2.2.2.2.1, V10.2.2.2.2.2.1, fun _ => rfl, fun _ => rfl, V10.2.2.2.2.2.2.2.2⟩, hid (HW.out.trans (kz.mono HW.out.size))⟩
       ·rintro b a wy hb hd ⟨zz, rfl, HV, HW⟩ K hK
        simp [Region.binds] at hd
        have e17 : (zz 52) = .bool kz7 := (HV.out.2.2.2.2.2.2.2.2.2.2.2.2.2.2.2.2.2.1) (by simp [hd])
        clear hd
        go_simp
        have V := HV.out
        have V10 := V.2.2.2.2.2.2.2.2.2.2
        exact hK _ _ ⟨fun s => if s = 53 then .bool (!kz7) else if s = 52 then .bool kz7 else zz s, rfl, hid ⟨V.1, V.2.1, V.2.2.1, V.2.2.2.1, V.2.2.2.2.1, V.2.2.2.2.2.1, V.2.2.2.2.2.2.1, V.2.2.2.2.2.2.2.1, V.2.2.2.2.2.2.2.2.1, V.2.2.2.2.2.2.2.2.2.1, V10.1, V10.2.1, V10.2.2.1, V10.2.2.2.1, V10.2.2.2.2.1, V10.2.2.2.2.2.1, V10.2.2.2.2.2.2.1, fun _ => rfl, fun _ => rfl⟩, HW⟩
      case doneD =>
       rintro b a wy hb ⟨zz, rfl, HV, HW⟩
       have e0 := (HV.out.1) (hb 0)
       have e1 := (HV.out.2.1) (hb 1)
       have e2 := (HV.out.2.2.1) (hb 2)
       have e3 := (HV.out.2.2.2.1) (hb 3)
       have e4 := (HV.out.2.2.2.2.1) (hb 4)
       have e5 := (HV.out.2.2.2.2.2.1) (hb 5)
       have e6 := (HV.out.2.2.2.2.2.2.1) (hb 6)
       have e7 := (HV.out.2.2.2.2.2.2.2.1) (hb 7)
       have e8 := (HV.out.2.2.2.2.2.2.2.2.1) (hb 8)
       have e9 := (HV.out.2.2.2.2.2.2.2.2.2.1) (hb 9)
       have e10 := (HV.out.2.2.2.2.2.2.2.2.2.2.1) (hb 10)
       have e11 := (HV.out.2.2.2.2.2.2.2.2.2.2.2.1) (hb 11)
       have e12 := (HV.out.2.2.2.2.2.2.2.2.2.2.2.2.1) (hb 12)
       have e13 := (HV.out.2.2.2.2.2.2.2.2.2.2.2.2.2.1) (hb 13)
       have e14 := (HV.out.2.2.2.2.2.2.2.2.2.2.2.2.2.2.1) (hb 14)
       have e15 := (HV.out.2.2.2.2.2.2.2.2.2.2.2.2.2.2.2.1) (hb 15)
       have e16 := (HV.out.2.2.2.2.2.2.2.2.2.2.2.2.2.2.2.2.1) (hb 16)
       have e17 := (HV.out.2.2.2.2.2.2.2.2.2.2.2.2.2.2.2.2.2.1) (hb 17)
       have e18 := (HV.out.2.2.2.2.2.2.2.2.2.2.2.2.2.2.2.2.2.2) (hb 18)
       simp only [e0, e1, e2, e3, e4, e5, e6, e7, e8, e9, e10, e11, e12, e13, e14, e15, e16, e17, e18]
       clear HV hb e0 e1 e2 e3 e4 e5 e6 e7 e8 e9 e10 e11 e12 e13 e14 e15 e16 e17 e18
       have hk1 := HVK.out.1
       have hk2 := HVK.out.2
       cases kz7 with
       | false =>
        go_wp2_with fail
        go_ret
        exact ⟨by rw [HR3.out, all_not (i := j) hlt HQ.out.2.symm]; rfl, HB4.out.trans ((HBr.out.trans (HW.out.mono HBr.out.size)).mono HB4.out.size)⟩
       | true =>
        go_wp2_with fail
        go_roundw
        case rel => exact ⟨j + 1, by omega, by have h1 := HVK.out.1; have h2 := HVK.out.2; go_num, fun t ht => by
         rcases Nat.lt_or_ge t j with q | q
         ·exact HALL.out t q
         ·obtain rfl : t = j := by omega
          exact HQ.out.2.symm, hid (HBr.out.trans (HW.out.mono HBr.out.size))⟩
        case measure => have h1 := HVK.out.1; have h2 := HVK.out.2; simp [Go.RowKit.intOf]; omega
     ·have hji : ¬ ((j : Int) < (u.vs.length : Int)) := by omega
      go_wp2_with fail
      go_ret
      obtain rfl : j = u.vs.length := by omega
      exact ⟨by rw [HR3.out, all_upto HALL.out]; rfl, HB4.out.trans (HBr.out.mono HB4.out.size)⟩
 ·have hei : ¬ (((u.e : Nat) : Int) = 0) := by omega
  go_wp2_with fail
  go_ret
  exact ⟨by rw [HR.out, decide_eq_false he]; rfl, HB3.out⟩
end
end Go.Proofs.YtogchamogbendaaGreat.Bs
