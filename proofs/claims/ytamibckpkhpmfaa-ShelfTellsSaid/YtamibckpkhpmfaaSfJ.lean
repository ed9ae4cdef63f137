/- Contract: shelf.Encode. -/
import Derived.Test.YtamibckpkhpmfaaSfI
import Derived.Test.YtamibckpkhpmfaaSfG
import Derived.StillTailTactics
namespace Go.Proofs.Ytamibckpkhpmfaa.Sf
open Go.RowKit Go.Proofs.Ytamibckpkhpmfaa.Oct
set_option linter.unusedVariables false

def ebytes : List Ent → List UInt8
  | [] => []
  | e :: es => bytesOf e.1.toNat 8 ++ bytesOf e.2.toNat 4 ++ ebytes es
theorem length_ebytes (es : List Ent) : (ebytes es).length = 12 * es.length := by
  induction es with
  | nil => rfl
  | cons e es ih => simp [ebytes, length_bytesOf, ih]; omega
theorem ebytes_snoc (es : List Ent) (e : Ent) : ebytes (es ++ [e]) = ebytes es ++ bytesOf e.1.toNat 8 ++ bytesOf e.2.toNat 4 := by
  induction es with
  | nil => simp [ebytes]
  | cons x es ih => simp [ebytes, ih]
def head (d : UInt8) (nx : UInt32) (n : Nat) : List UInt8 := bytesOf d.toNat 1 ++ bytesOf n 1 ++ bytesOf nx.toNat 4
theorem length_head (d : UInt8) (nx : UInt32) (n : Nat) : (head d nx n).length = 6 := by simp [head, length_bytesOf]
def shelfBody (d : UInt8) (nx : UInt32) (es : List Ent) : List UInt8 := head d nx es.length ++ ebytes es
theorem length_body (d : UInt8) (nx : UInt32) (es : List Ent) : (shelfBody d nx es).length = 6 + 12 * es.length := by simp [shelfBody, length_head, length_ebytes]
def fullBody (d : UInt8) (nx : UInt32) (es : List Ent) : List UInt8 := shelfBody d nx es ++ List.replicate (123 - (shelfBody d nx es).length) 0
theorem length_full (d : UInt8) (nx : UInt32) (es : List Ent) (h : es.length ≤ 9) : (fullBody d nx es).length = 123 := by
  have := length_body d nx es
  simp [fullBody]
  omega
def shelfPage (d : UInt8) (nx : UInt32) (es : List Ent) : List UInt8 := page 3 (shelfBody d nx es)
theorem page_pad (k : UInt8) (bs : List UInt8) (h : bs.length ≤ 123) : page k (bs ++ List.replicate (123 - bs.length) 0) = page k bs := by
  have e : face k (bs ++ List.replicate (123 - bs.length) 0) = face k bs := by
    unfold face
    rw [List.length_append, List.length_replicate, show 123 - (bs.length + (123 - bs.length)) = 0 by omega, List.replicate_zero, List.append_nil]
  unfold page
  rw [e]

/-- A body of 123 bytes of which P is written. -/
structure Body (w : World) (g : Nat) (P : List UInt8) : Prop where
  has : Has w g 0 (P ++ List.replicate (123 - P.length) 0)
  free : Free w g 0 123
  le : P.length ≤ 123
theorem Body.below {w w' : World} {g B : Nat} {P : List UInt8} (h : Body w g P) (k : Below B w w') (hg : g < B) : Body w' g P :=
  ⟨h.has.below hg k, fun i hi => (k.frozen (p := ⟨g, 0 + i, none⟩) hg).trans (h.free i hi), h.le⟩
theorem Body.start {w : World} {g : Nat} (R : Row w g (List.replicate 123 0)) : Body w g [] := ⟨by simpa using R.has, R.free 0 123, by simp⟩
theorem Body.window {w : World} {g : Nat} {P : List UInt8} (h : Body w g P) (s : Nat) (hs : P.length + s ≤ 123) : Has w g P.length (List.replicate s 0) := by
  have := h.has.cut P.length s
  rw [Nat.zero_add] at this
  have e : ((P ++ List.replicate (123 - P.length) 0).drop P.length).take s = List.replicate s (0 : UInt8) := by
    rw [List.drop_append_of_le_length (Nat.le_refl _), List.drop_length, List.nil_append, List.take_replicate, show min s (123 - P.length) = s by omega]
  rwa [e] at this
theorem Body.put {w w' : World} {g s : Nat} {P X : List UInt8} (h : Body w g P) (hX : Has w' g P.length X) (W : Wrote w w' g P.length (P.length + s)) (hl : X.length = s) (hs : P.length + s ≤ 123) : Body w' g (P ++ X) := by
  refine ⟨?_, fun i hi => (W.frz _).trans (h.free i hi), by rw [List.length_append, hl]; exact hs⟩
  have h1 : Has w g 0 P := by
    have := h.has.pre P.length
    rwa [List.take_append_of_le_length (Nat.le_refl _), List.take_length] at this
  have h2 : Has w g (P.length + s) (List.replicate (123 - (P.length + s)) 0) := by
    have := h.has.cut (P.length + s) (123 - (P.length + s))
    rw [Nat.zero_add] at this
    have e : ((P ++ List.replicate (123 - P.length) 0).drop (P.length + s)).take (123 - (P.length + s)) = List.replicate (123 - (P.length + s)) (0 : UInt8) := by
      rw [List.drop_append, List.drop_of_length_le (by omega), List.nil_append, List.drop_replicate, List.take_replicate]
      congr 1
      omega
    rwa [e] at this
  rw [List.length_append, hl]
  refine Has.join ((W.has h1 (.inl (by omega))).join (by rw [Nat.zero_add]; exact hX)) ?_
  rw [List.length_append, hl, Nat.zero_add]
  exact W.has h2 (.inr (Nat.le_refl _))
theorem Wrote.but {w w' : World} {b lo hi : Nat} (W : Wrote w w' b lo hi) : But w w' b := ⟨W.os, W.tape, W.output, W.size, W.block⟩

/-- put, behind what is written already. -/
theorem put_pen {w : World} {g : Nat} {P : List UInt8} (h : Body w g P) (o s n : Nat) (ho : P.length = o) (h1 : 1 ≤ s) (h8 : s ≤ 8) (hs : o + s ≤ 123) (hn : n < 256 ^ s) :
    Calls Try.prog 21 #[.slice (some ⟨g, o, none⟩) s s, .int .u64 (n : Int)] w fun e w' => e = .returned (.tuple #[]) ∧ Body w' g (P ++ bytesOf n s) ∧ But w w' g := by
  subst ho
  refine (put_any g P.length s (List.replicate s 0) (by simp) n w (h.window s hs) (fun i hi => ?_) h1 h8 hn).mono fun e w' ⟨he, hX, W⟩ => ⟨he, h.put hX W (length_bytesOf s n) hs, Wrote.but W⟩
  have := h.free (P.length + i) (by omega)
  rwa [Nat.zero_add] at this

/-- What Encode has laid: the shelf in a variable, the body, the places, the layout. -/
structure Enc (w0 w : World) (g p q : Nat) (d : UInt8) (nx : UInt32) (A : Option Addr) (n c : Nat) (P : List UInt8) : Prop where
  below : Below w0.heap.size w0 w
  box : Box w w0.heap.size d nx A n c
  o1 : w0.heap.size < g
  o2 : g < p
  o3 : p < q
  lay : RowV w q 49 (laid g 9)
  pl : Places w p g 114
  body : Body w g P
theorem Enc.put {w0 w w' : World} {g p q n c : Nat} {d : UInt8} {nx : UInt32} {A : Option Addr} {P P' : List UInt8} (h : Enc w0 w g p q d nx A n c P) (k : But w w' g) (hb : Body w' g P') : Enc w0 w' g p q d nx A n c P' :=
  ⟨h.below.trans (k.below (by have := h.o1; omega)), h.box.below (k.below (B := g) (Nat.le_refl _)) h.o1, h.o1, h.o2, h.o3, h.lay.block (k.block _ (by have := h.o2; have := h.o3; omega)), h.pl.block (k.block _ (by have := h.o2; omega)), hb⟩
theorem Enc.grow {w0 w w' : World} {g p q n c : Nat} {d : UInt8} {nx : UInt32} {A : Option Addr} {P : List UInt8} (h : Enc w0 w g p q d nx A n c P) (k : Below w.heap.size w w') : Enc w0 w' g p q d nx A n c P :=
  ⟨h.below.trans (k.mono h.below.size), h.box.below k h.box.lt, h.o1, h.o2, h.o3, h.lay.below h.lay.lt k, h.pl.block (k.block _ h.pl.row.lt), h.body.below k (by have := h.lay.lt; have := h.o2; have := h.o3; omega)⟩
theorem Enc.still {w0 w w' : World} {g p q n c : Nat} {d : UInt8} {nx : UInt32} {A : Option Addr} {P : List UInt8} (h : Enc w0 w g p q d nx A n c P) (k : Still w w') : Enc w0 w' g p q d nx A n c P := h.grow (k.below _)
theorem place_print (g k : Nat) (h : k < 9) : (laid g 9)[3 + k * 2]? = some (.slice (some ⟨g, 6 + 12 * k, none⟩) 8 8) := by
  rw [laid_at g 9 _ (by omega), if_pos (by omega)]
  unfold place
  rw [if_neg (by omega), if_neg (by omega), if_neg (by omega), if_pos (by omega), show (3 + k * 2 - 3) / 2 = k by omega]
theorem place_block (g k : Nat) (h : k < 9) : (laid g 9)[3 + k * 2 + 1]? = some (.slice (some ⟨g, 14 + 12 * k, none⟩) 4 4) := by
  rw [laid_at g 9 _ (by omega), if_pos (by omega)]
  unfold place
  rw [if_neg (by omega), if_neg (by omega), if_neg (by omega), if_neg (by omega), show (3 + k * 2 + 1 - 3) / 2 = k by omega]

set_option maxRecDepth 100000 in
set_option maxHeartbeats 1000000 in
theorem encode_no (d : UInt8) (nx : UInt32) {w : World} {A : Option Addr} {n c : Nat} {es : List Ent} (h : Sh w A n c es) (hf : ¬ Fit d nx es) :
    Calls Try.prog 10 #[.agg #[.int .u8 (d.toNat : Int), .int .u32 (nx.toNat : Int), .slice A n c]] w fun e w' => e = .returned (.tuple #[.slice none 0 0, .int .i64 40]) ∧ Below w.heap.size w w' := by
  have HD := Lib.hid (h.boxed (.cells #[.int .u8 (d.toNat : Int), .int .u32 (nx.toNat : Int), .slice A n c] 25))
  have BB := Lib.hid ((Below.refl w.heap.size w).alloc (Nat.le_refl _) (.cells #[.int .u8 (d.toNat : Int), .int .u32 (nx.toNat : Int), .slice A n c] 25))
  have HF := Lib.hid hf
  clear h hf
  go_enter Try.func10, Try.ntmps10
  go_wp2_with fail
  refine (right_any d nx HD.out).mono ?_
  rintro e w2 ⟨rfl, B2⟩
  rw [decide_eq_false HF.out]
  have BB2 := Lib.hid (BB.out.trans (B2.mono BB.out.size))
  clear B2
  go_wp2_with fail
  go_ret2
  exact ⟨rfl, BB2.out⟩

set_option maxRecDepth 100000 in
set_option maxHeartbeats 1000000 in
theorem encode_yes (d : UInt8) (nx : UInt32) {w : World} {A : Option Addr} {n c : Nat} {es : List Ent} (h : Sh w A n c es) (hf : Fit d nx es) :
    Calls Try.prog 10 #[.agg #[.int .u8 (d.toNat : Int), .int .u32 (nx.toNat : Int), .slice A n c]] w (SealPost w 3 (shelfBody d nx es)) := by
  have HD := Lib.hid (h.boxed (.cells #[.int .u8 (d.toNat : Int), .int .u32 (nx.toNat : Int), .slice A n c] 25))
  have HD0 := Lib.hid h
  have HL := Lib.hid h.el
  have BB := Lib.hid ((Below.refl w.heap.size w).alloc (Nat.le_refl _) (.cells #[.int .u8 (d.toNat : Int), .int .u32 (nx.toNat : Int), .slice A n c] 25))
  have BX := Lib.hid (box_new (T := 25) w d nx A n c)
  have hn : n ≤ 9 := by have := hf.2.2.1; rw [h.el] at this; exact this
  have HF := Lib.hid hf
  have hd := u8_le d
  have hx := u32_lt nx
  clear h hf
  go_enter Try.func10, Try.ntmps10
  go_wp2_with fail
  generalize w.alloc (.cells #[.int .u8 (d.toNat : Int), .int .u32 (nx.toNat : Int), .slice A n c] 25) = w1 at *
  refine (right_any d nx HD.out).mono ?_
  rintro e w2 ⟨rfl, B2⟩
  rw [decide_eq_true HF.out]
  have Y2 := Lib.hid (BB.out.trans (B2.mono BB.out.size))
  have X2 := Lib.hid (BX.out.below B2 BX.out.lt)
  clear B2 BB BX HD
  have hmk : (Instr.makeSlice 26 (.int .i64 123) (.int .i64 123)).run Try.prog w2 = .ok (.slice (some ⟨w2.heap.size, 0, none⟩) 123 123) (w2.alloc (.cells (vals (List.replicate 123 0)).toArray 5)) := run_make_bytes w2 123 (by omega)
  have R3 := alloc_row w2 (List.replicate 123 0)
  have b3 := (Below.refl w2.heap.size w2).alloc (Nat.le_refl _) (.cells (vals (List.replicate 123 0)).toArray 5)
  have hs3 : (w2.alloc (.cells (vals (List.replicate 123 0)).toArray 5)).heap.size = w2.heap.size + 1 := by simp
  generalize w2.alloc (.cells (vals (List.replicate 123 0)).toArray 5) = w3 at *
  obtain ⟨g, hg⟩ : ∃ g, g = w2.heap.size := ⟨_, rfl⟩
  rw [← hg] at hmk R3 b3 hs3
  have hxg : w.heap.size < g := by rw [hg]; exact X2.out.lt
  have Y3 := Y2.out.trans (b3.mono (by omega))
  have X3 := X2.out.below b3 hxg
  -- the places
  have R4 := alloc_rowV w3 44 [.slice (some ⟨g, 0, none⟩) 123 123, .int .i64 0]
  change RowV (w3.alloc (.cells #[.slice (some ⟨g, 0, none⟩) 123 123, .int .i64 0] 44)) _ _ _ at R4
  have b4 := (Below.refl w3.heap.size w3).alloc (Nat.le_refl _) (.cells #[.slice (some ⟨g, 0, none⟩) 123 123, .int .i64 0] 44)
  have HH := Lib.hid (And.intro hg hs3)
  clear hg hs3
  go_wp2_with fail
  have hs4 : (w3.alloc (.cells #[.slice (some ⟨g, 0, none⟩) 123 123, .int .i64 0] 44)).heap.size = w3.heap.size + 1 := by simp
  generalize w3.alloc (.cells #[.slice (some ⟨g, 0, none⟩) 123 123, .int .i64 0] 44) = w4 at *
  obtain ⟨p, hp⟩ : ∃ p, p = w3.heap.size := ⟨_, rfl⟩
  rw [← hp] at R4 b4 hs4 ⊢
  have hgp : g < p := by have := HH.out.1; have := HH.out.2; omega
  have PL4 : Places w4 p g 0 := ⟨R4, by decide⟩
  have Y4 := Y3.trans (b4.mono (by omega))
  have X4 := X3.below b4 (by omega)
  have BD4 := (Body.start R3).below b4 hgp
  have HP4 := Lib.hid hs4
  clear hs4 hp
  refine (layout_any PL4).mono ?_
  rintro e w5 ⟨rfl, G5, P5⟩
  have b5 := G5.below (B := p) (Nat.le_refl _) (by have := HP4.out; omega)
  have Y5 := Y4.trans (b5.mono (by omega))
  have X5 := X4.below b5 (by omega)
  have BD5 := BD4.below b5 hgp
  have hst := run_storeCells_new (P := Try.prog) w5 49 #[.slice none 0 0, .slice none 0 0, .slice none 0 0, .slice none 0 0, .slice none 0 0, .slice none 0 0, .slice none 0 0, .slice none 0 0, .slice none 0 0, .slice none 0 0, .slice none 0 0, .slice none 0 0, .slice none 0 0, .slice none 0 0, .slice none 0 0, .slice none 0 0, .slice none 0 0, .slice none 0 0, .slice none 0 0, .slice none 0 0, .slice none 0 0] (laid g 9).toArray (size_laid g 9) (by simp [length_laid]) (one_laid g 9)
  have R6 := alloc_rowV w5 49 (laid g 9)
  have b6 := (Below.refl w5.heap.size w5).alloc (Nat.le_refl _) (.cells (laid g 9).toArray 49)
  generalize w5.alloc (.cells (laid g 9).toArray 49) = w6 at *
  have EN := Lib.hid (show Enc w w6 g p w5.heap.size d nx A n c [] from
    ⟨Y5.trans (b6.mono (by have := Y5.size; omega)), X5.below b6 X5.lt, hxg, hgp, P5.row.lt, R6, P5.block (b6.block _ P5.row.lt), BD5.below b6 (by have := P5.row.lt; omega)⟩)
  clear R3 b3 Y3 X3 R4 b4 PL4 Y4 X4 BD4 HP4 G5 P5 b5 Y5 X5 BD5 R6 b6 hmk X2 Y2 HH
  have l0 : w6.cell? ⟨w5.heap.size, 0, none⟩ = some (.slice (some ⟨g, 0, none⟩) 1 1) := EN.out.lay.cellAt (i := 0) (by rw [laid_at g 9 0 (by omega)]; rfl)
  obtain ⟨x0, x1, x2, _⟩ := EN.out.box
  go_wp2_with fail
  clear hst
  generalize w5.heap.size = q at *
  refine (put_pen EN.out.body 0 1 d.toNat rfl (by decide) (by decide) (by decide) (by omega)).mono ?_
  rintro e w7 ⟨rfl, B7, K7⟩
  have E7 := Lib.hid (EN.out.put K7 B7)
  have l1 : w7.cell? ⟨q, 1, none⟩ = some (.slice (some ⟨g, 1, none⟩) 1 1) := E7.out.lay.cellAt (i := 1) (by rw [laid_at g 9 1 (by omega)]; rfl)
  obtain ⟨x0, x1, x2, _⟩ := E7.out.box
  clear B7 K7 EN l0
  dsimp only
  go_wp2_with fail
  refine (put_pen E7.out.body 1 1 n (by simp [length_bytesOf]) (by decide) (by decide) (by decide) (by omega)).mono ?_
  rintro e w8 ⟨rfl, B8, K8⟩
  have E8 := Lib.hid (E7.out.put K8 B8)
  have l2 : w8.cell? ⟨q, 2, none⟩ = some (.slice (some ⟨g, 2, none⟩) 4 4) := E8.out.lay.cellAt (i := 2) (by rw [laid_at g 9 2 (by omega)]; rfl)
  obtain ⟨x0, x1, x2, _⟩ := E8.out.box
  clear B8 K8 E7 l1
  dsimp only
  go_wp2_with fail
  refine (put_pen E8.out.body 2 4 nx.toNat (by simp [length_bytesOf]) (by decide) (by decide) (by decide) (by omega)).mono ?_
  rintro e w9 ⟨rfl, B9, K9⟩
  have E9 := Lib.hid (show Enc w w9 g p q d nx A n c (head d nx n) from E8.out.put K9 B9)
  obtain ⟨x0, x1, x2, _⟩ := E9.out.box
  clear B9 K9 E8 l2
  dsimp only
  go_wp2_with fail
  go_loopw [37] (fun i wr => ∃ k : Nat, k ≤ n ∧ i = .int .i64 (k : Int) ∧ Hid (Enc w wr g p q d nx A n c (head d nx n ++ ebytes (es.take k)))) (fun i _ => n - (intOf i).toNat)
  case atStart => exact ⟨0, Nat.zero_le _, rfl, Lib.hid (by simpa [ebytes] using E9.out)⟩
  case round =>
    obtain ⟨k, hk, rfl, HE⟩ := hrel
    clear E9 x0 x1 x2
    by_cases hlt : k < n
    · obtain ⟨b, o, rfl, hb, c1, c2⟩ := (HD0.out.below HE.out.below).at hlt
      have HS := Lib.hid (show head d nx n ++ ebytes (es.take (k + 1)) = head d nx n ++ ebytes (es.take k) ++ bytesOf (es[k]'(by rw [HL.out]; exact hlt)).1.toNat 8 ++ bytesOf (es[k]'(by rw [HL.out]; exact hlt)).2.toNat 4 by
        rw [List.take_succ_eq_append_getElem (by rw [HL.out]; exact hlt), ebytes_snoc]; simp [List.append_assoc])
      have HPL := Lib.hid (show (head d nx n ++ ebytes (es.take k)).length = 6 + 12 * k by
        rw [List.length_append, length_head, length_ebytes, List.length_take, HL.out, Nat.min_eq_left (by omega)])
      generalize es[k]'(by rw [HL.out]; exact hlt) = x at c1 c2 HS
      have hx1 := u64_lt x.1
      have hx2 := u32_lt x.2
      have A1 := (Below.refl wr.heap.size wr).alloc (Nat.le_refl _) (.cells #[.int .u64 (x.1.toNat : Int), .int .u32 (x.2.toNat : Int)] 40)
      have E1 := HE.out.grow A1
      have z0 := box_cell wr #[.int .u64 (x.1.toNat : Int), .int .u32 (x.2.toNat : Int)] 40 0 _ rfl
      have z1 := box_cell wr #[.int .u64 (x.1.toNat : Int), .int .u32 (x.2.toNat : Int)] 40 1 _ rfl
      have l1 := E1.lay.cellAt (place_print g k (by omega))
      have HE1 := Lib.hid E1
      have HZ := Lib.hid (show q < wr.heap.size from HE.out.lay.lt)
      have hk9 : (k : Int) < 9 := by omega
      have hk0 : (0 : Int) ≤ (k : Int) := by omega
      clear HE A1 E1
      go_wp2_with fail
      generalize wr.alloc (.cells #[.int .u64 (x.1.toNat : Int), .int .u32 (x.2.toNat : Int)] 40) = w10 at *
      generalize wr.heap.size = z at *
      go_still_tail 7, (by kernel_rfl)
      change wpList _ _ _ _ _ w10.drew
      have E2 := Lib.hid (HE1.out.still (Still.drew w10))
      have Z1 := Lib.hid (show w10.drew.cell? ⟨z, 1, none⟩ = some (.int .u32 (x.2.toNat : Int)) from z1)
      clear HE1 z0 z1 l1 c1 c2
      generalize w10.drew = w11 at *
      go_wp2_with fail
      refine (put_pen E2.out.body (6 + 12 * k) 8 x.1.toNat HPL.out (by decide) (by decide) (by omega) (by omega)).mono ?_
      rintro e w12 ⟨rfl, B12, K12⟩
      have E3 := Lib.hid (E2.out.put K12 B12)
      have z1 := (World.cell?_of_block (a := ⟨z, 1, none⟩) (K12.block z (by have := E2.out.o2; have := E2.out.o3; have := HZ.out; omega))).trans Z1.out
      have l1 := E3.out.lay.cellAt (place_block g k (by omega))
      clear B12 K12 E2 Z1
      dsimp only
      go_wp2_with fail
      go_still_tail 8, (by kernel_rfl)
      change wpList _ _ _ _ _ w12.drew
      have E4 := Lib.hid (E3.out.still (Still.drew w12))
      clear E3 z1 l1
      generalize w12.drew = w13 at *
      go_wp2_with fail
      refine (put_pen E4.out.body (14 + 12 * k) 4 x.2.toNat (by rw [List.length_append, HPL.out, length_bytesOf]; omega) (by decide) (by decide) (by omega) (by omega)).mono ?_
      rintro e w14 ⟨rfl, B14, K14⟩
      have E5 := Lib.hid (E4.out.put K14 B14)
      clear B14 K14 E4
      dsimp only
      go_wp2_with fail
      go_roundw
      case rel => exact ⟨k + 1, by omega, by go_num, Lib.hid (by rw [HS.out]; exact E5.out)⟩
      case measure => simp [intOf]; omega
    · obtain rfl : k = n := by omega
      have c0 := HE.out.pl.row.cellAt (i := 0) rfl
      have HT := Lib.hid (show Has wr g 0 (fullBody d nx es) by
        have := HE.out.body.has
        rw [List.take_of_length_le (by rw [HL.out]; exact Nat.le_refl _)] at this
        unfold fullBody shelfBody
        rw [HL.out]
        exact this)
      have HLF := Lib.hid (length_full d nx es (by rw [HL.out]; exact hn))
      go_wp2_with fail
      refine (seal_any 3 _ 123 123 (fullBody d nx es) HLF.out _ (by decide) HT.out.told).mono ?_
      rintro e w20 ⟨g2, rfl, F⟩
      have HP2 : page 3 (fullBody d nx es) = page 3 (shelfBody d nx es) := page_pad 3 _ (by rw [length_body, HL.out]; omega)
      rw [HP2] at F
      have HFR := Lib.hid F
      clear F HP2
      go_wp2_with fail
      go_ret2
      exact ⟨g2, rfl, HE.out.below.trans (HFR.out.below.mono HE.out.below.size), Nat.le_trans HE.out.below.size HFR.out.lo, HFR.out.hi, HFR.out.has, HFR.out.free, HFR.out.len, HFR.out.cap⟩
end Go.Proofs.Ytamibckpkhpmfaa.Sf
