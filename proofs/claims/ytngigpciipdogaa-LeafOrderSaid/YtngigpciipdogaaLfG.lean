/- Contract: leaf.Encode. -/
import Derived.Test.YtngigpciipdogaaLfF
import Derived.Deep.RegionLaw
namespace Go.Proofs.Ytngigpciipdogaa.Lf
open Go.RowKit Go.Proofs.Ytngigpciipdogaa.Oct
set_option linter.unusedVariables false

def nodeBody (ks vs : List UInt64) : List UInt8 := bytesOf ks.length 1 ++ pairs ks vs
def nodePage (l : Bool) (ks vs : List UInt64) : List UInt8 := page (kindN l) (nodeBody ks vs)

theorem fit_lens {l : Bool} {ks vs : List UInt64} (h : Fit l ks vs) : ks.length ≤ 7 ∧ vs.length = ks.length := ⟨h.1, h.2.1⟩

theorem step_copy_nums {ops : Array Oper} {o : Oper} {a : Act} {w : World} {K : Act → World → Prop} {Q : Exit → Act → World → Prop} {E : Prop} (hgd : o.guard = none) (s x : Operand)
    (ho : o.op = .call { callee := .builtin .copy, args := #[s, x], argTypes := #[22, 22] }) (T : TypeId) (g off dLen dCap : Nat) (cur ns : List UInt64) (hs : a.eval s = .slice (some ⟨g, off, none⟩) dLen dCap) (R : RowN w g T cur)
    (ad : Option Addr) (len cap : Nat) (hx : a.eval x = .slice ad len cap) (hlen : ns.length = len) (hT : ToldN w ad ns) (hd : len ≤ dLen) (hfit : off + len ≤ cur.length)
    (h : ∀ w', RowN w' g T (splice cur off ns) → Below g w w' → (∀ k, k ≠ g → w'.heap[k]? = w.heap[k]?) → w'.heap.size = w.heap.size → K (a.put o.dst (goInt len)) w') : if Region.wanted o (yielded ops a.tmps) = true then Oper.wp Try.prog o a w K Q else E := by
  have hw : Region.wanted o (yielded ops a.tmps) = true := by simp [Region.wanted, hgd]
  rw [if_pos hw]
  obtain ⟨w', hrun, h2, h3, h4, h5⟩ := run_copy_nums w o.type T g off dLen dCap cur ns R ad len cap hlen hT hd hfit
  unfold Oper.wp
  simp [execOp, ho, resolve, invoke, builtin, hs, hx, hrun, Result.andThen]
  exact h _ h2 h3 h4 h5

def pad7 (ns : List UInt64) : List UInt64 := ns ++ List.replicate (7 - ns.length) 0
theorem length_pad7 (ns : List UInt64) (h : ns.length ≤ 7) : (pad7 ns).length = 7 := by simp [pad7]; omega
theorem splice_keys (c : UInt64) (ks zs : List UInt64) (h : ks.length ≤ 7) : splice (content c (List.replicate 7 0) zs) 1 ks = content c (pad7 ks) zs := by
  unfold splice content pad7
  rw [show 1 + ks.length = ks.length + 1 by omega, List.drop_succ_cons, List.take_succ_cons, List.take_zero, List.drop_append_of_le_length (by simp; omega), List.drop_replicate]
  simp
theorem splice_vals (c : UInt64) (ks vs : List UInt64) (hk : ks.length = 7) (h : vs.length ≤ 7) : splice (content c ks (List.replicate 7 0)) 8 vs = content c ks (pad7 vs) := by
  unfold splice content pad7
  rw [show 8 + vs.length = (7 + vs.length) + 1 by omega, List.drop_succ_cons, List.take_succ_cons, List.drop_append, List.drop_of_length_le (by omega), List.nil_append, hk, List.take_append_of_le_length (by omega), List.take_of_length_le (by omega), show 7 + vs.length - 7 = vs.length by omega, List.drop_replicate]
  simp
theorem pairs_pad (ks vs : List UInt64) (h : ks.length = vs.length) (r : Nat) : pairs (ks ++ List.replicate r 0) (vs ++ List.replicate r 0) = pairs ks vs ++ List.replicate (16 * r) 0 := by
  induction r with
  | zero => simp
  | succ r ih =>
    rw [List.replicate_succ', ← List.append_assoc, ← List.append_assoc, pairs_snoc _ _ (by simp [h]), ih, show bytesOf (0 : UInt64).toNat 8 = List.replicate 8 0 by decide, List.append_assoc, List.append_assoc, List.replicate_append_replicate, List.replicate_append_replicate, show 16 * r + (8 + 8) = 16 * (r + 1) by omega]
theorem length_nodeBody (ks vs : List UInt64) (h : vs.length = ks.length) : (nodeBody ks vs).length = 1 + 16 * ks.length := by
  unfold nodeBody
  rw [List.length_append, length_bytesOf, length_pairs _ _ h.symm]
/-- The body that is written, with its noughts. -/
def fullBody (ks vs : List UInt64) : List UInt8 := nodeBody ks vs ++ List.replicate (123 - (nodeBody ks vs).length) 0
theorem length_fullBody (ks vs : List UInt64) (h : vs.length = ks.length) (h7 : ks.length ≤ 7) : (fullBody ks vs).length = 123 := by
  have := length_nodeBody ks vs h
  simp [fullBody]
  omega
theorem body_all (c : UInt64) (ks vs : List UInt64) (hc : c.toNat = ks.length) (h : vs.length = ks.length) (h7 : ks.length ≤ 7) :
    bytesOf c.toNat 1 ++ pairs (pad7 ks) (pad7 vs) ++ List.replicate (123 - (bytesOf c.toNat 1 ++ pairs (pad7 ks) (pad7 vs)).length) 0 = fullBody ks vs := by
  unfold pad7 fullBody
  rw [h, pairs_pad _ _ h.symm, ← List.append_assoc, hc]
  unfold nodeBody
  rw [List.append_assoc (bytesOf ks.length 1 ++ pairs ks vs), List.replicate_append_replicate]
  congr 2
  have := length_pairs ks vs h.symm
  simp only [List.length_append, length_bytesOf, List.length_replicate]
  omega
theorem page_pad (k : UInt8) (bs : List UInt8) (h : bs.length ≤ 123) : page k (bs ++ List.replicate (123 - bs.length) 0) = page k bs := by
  have e : face k (bs ++ List.replicate (123 - bs.length) 0) = face k bs := by
    unfold face
    rw [List.length_append, List.length_replicate, show 123 - (bs.length + (123 - bs.length)) = 0 by omega, List.replicate_zero, List.append_nil]
  unfold page
  rw [e]

theorem pen_start (w : World) (g : Nat) (R : Row w g (List.replicate 123 0)) :
    Pen ((w.alloc (.cells #[.slice (some ⟨g, 0, none⟩) 123 123] 31)).alloc (.cells #[.int .i64 0] 3)) w.heap.size (w.heap.size + 1) g [] := by
  have b1 := (Below.refl w.heap.size w).alloc (Nat.le_refl _) (.cells #[.slice (some ⟨g, 0, none⟩) 123 123] 31)
  have c1 := box_cell w #[.slice (some ⟨g, 0, none⟩) 123 123] 31 0 _ rfl
  have hs : (w.alloc (.cells #[.slice (some ⟨g, 0, none⟩) 123 123] 31)).heap.size = w.heap.size + 1 := by simp
  generalize w.alloc (.cells #[.slice (some ⟨g, 0, none⟩) 123 123] 31) = w1 at *
  have b2 := (Below.refl w1.heap.size w1).alloc (Nat.le_refl _) (.cells #[.int .i64 0] 3)
  have c2 := box_cell w1 #[.int .i64 0] 3 0 _ rfl
  have f2 : (w1.alloc (.cells #[.int .i64 0] 3)).frozen? ⟨w1.heap.size, 0, none⟩ = false := by
    have := heap_alloc_new w1 (.cells #[.int .i64 0] 3)
    generalize w1.alloc (.cells #[.int .i64 0] 3) = w2 at *
    simp [World.frozen?, this]
  generalize w1.alloc (.cells #[.int .i64 0] 3) = w2 at *
  rw [hs] at c2 f2 b2
  have hR : Row w2 g (List.replicate 123 0) := by
    unfold Row at *
    rw [b2.block g (by have := Row.lt R; omega), b1.block g (Row.lt R), R]
  have hlt := Row.lt R
  exact ⟨(b2.cell (by simp)).trans c1, c2, f2, by simpa using hR.has, hR.free 0 123, by simp, by omega, by omega, by omega⟩

theorem has_lt {w : World} {b o : Nat} {bs : List UInt8} (h : Has w b o bs) (h0 : 0 < bs.length) : b < w.heap.size := World.block_lt_of_cell? w _ (h 0 h0)

theorem fresh_back {w wk w' : World} {g cap : Nat} {bs : List UInt8} (B : Below w.heap.size w wk) (F : Fresh wk w' g bs cap) : Fresh w w' g bs cap :=
  ⟨B.trans (F.below.mono B.size), Nat.le_trans B.size F.lo, F.hi, F.has, F.free, F.len, F.cap⟩

theorem num_of (m : Nat) (h : m ≤ 7) : ∃ c : UInt64, c.toNat = m := ⟨UInt64.ofNat m, by simp; omega⟩
theorem content_row (w : World) (c : UInt64) (m : Nat) (h : c.toNat = m) :
    RowN (w.alloc (.cells #[.int .u64 (m : Int), .int .u64 0, .int .u64 0, .int .u64 0, .int .u64 0, .int .u64 0, .int .u64 0, .int .u64 0, .int .u64 0, .int .u64 0, .int .u64 0, .int .u64 0, .int .u64 0, .int .u64 0, .int .u64 0] 42)) w.heap.size 42 (content c (List.replicate 7 0) (List.replicate 7 0)) := by
  subst h
  exact alloc_rowN w 42 (content c (List.replicate 7 0) (List.replicate 7 0))
theorem RowN.blocks {w w' : World} {g : Nat} {T : TypeId} {ns : List UInt64} (h : RowN w g T ns) (k : ∀ i, i ≠ g → w'.heap[i]? = w.heap[i]?) {b : Nat} (hb : b ≠ g) (i : Nat) : w'.cell? ⟨b, i, none⟩ = w.cell? ⟨b, i, none⟩ := World.cell?_of_block (k b hb)

set_option maxRecDepth 100000 in
set_option maxHeartbeats 1000000 in
theorem encode_no (l : Bool) {w : World} {A B : Option Addr} {n c m d : Nat} {ks vs : List UInt64} (h : Nd w A n c B m d ks vs) (hn : n ≤ 1000) (hm : m ≤ 1000) (hf : ¬ Fit l ks vs) :
    Calls Try.prog 9 #[.agg #[.bool l, .slice A n c, .slice B m d]] w fun e w' => e = .returned (.tuple #[.slice none 0 0, .int .i64 30]) ∧ Below w.heap.size w w' := by
  have HD := Lib.hid (h.boxed (.cells #[.bool l, .slice A n c, .slice B m d] 24))
  have BB := Lib.hid ((Below.refl w.heap.size w).alloc (Nat.le_refl _) (.cells #[.bool l, .slice A n c, .slice B m d] 24))
  have HF := Lib.hid hf
  clear h hf
  go_enter Try.func9, Try.ntmps9
  go_wp2_with fail
  refine (right_any l HD.out hn hm).mono ?_
  rintro e w2 ⟨rfl, B2⟩
  rw [decide_eq_false HF.out]
  have BB2 := Lib.hid (BB.out.trans (B2.mono BB.out.size))
  clear B2
  go_wp2_with fail
  go_ret2
  exact ⟨rfl, BB2.out⟩

set_option maxRecDepth 100000 in
set_option maxHeartbeats 1000000 in
theorem encode_yes (l : Bool) {w : World} {A B : Option Addr} {n c m d : Nat} {ks vs : List UInt64} (h : Nd w A n c B m d ks vs) (hf : Fit l ks vs) :
    Calls Try.prog 9 #[.agg #[.bool l, .slice A n c, .slice B m d]] w (SealPost w (kindN l) (nodeBody ks vs)) := by
  have HD := Lib.hid (h.boxed (.cells #[.bool l, .slice A n c, .slice B m d] 24))
  have BB := Lib.hid ((Below.refl w.heap.size w).alloc (Nat.le_refl _) (.cells #[.bool l, .slice A n c, .slice B m d] 24))
  have hn : n ≤ 7 := by have := (fit_lens hf).1; rw [h.kl] at this; exact this
  have hmn : m = n := by have := (fit_lens hf).2; rw [h.kl, h.vl] at this; exact this
  subst hmn
  have HF := Lib.hid hf
  clear h hf
  go_enter Try.func9, Try.ntmps9
  go_wp2_with fail
  refine (right_any l HD.out (by omega) (by omega)).mono ?_
  rintro e w2 ⟨rfl, B2⟩
  rw [decide_eq_true HF.out]
  have e0 : w2.cell? ⟨w.heap.size, 0, none⟩ = some (.bool l) := (B2.cell (by simp)).trans (box_cell w _ _ 0 _ rfl)
  have e1 : w2.cell? ⟨w.heap.size, 1, none⟩ = some (.slice A m c) := (B2.cell (by simp)).trans (box_cell w _ _ 1 _ rfl)
  have e2 : w2.cell? ⟨w.heap.size, 2, none⟩ = some (.slice B m d) := (B2.cell (by simp)).trans (box_cell w _ _ 2 _ rfl)
  have HD2 := Lib.hid (HD.out.below B2)
  have BB2 := Lib.hid (BB.out.trans (B2.mono BB.out.size))
  have hlt : w.heap.size < w2.heap.size := Nat.lt_of_lt_of_le (by simp) B2.size
  clear B2
  go_wp2_with fail
  obtain ⟨cn, hcn⟩ := num_of m hn
  have R3 := content_row w2 cn m hcn
  have A3 := (Below.refl w2.heap.size w2).alloc (Nat.le_refl _) (.cells #[.int .u64 (m : Int), .int .u64 0, .int .u64 0, .int .u64 0, .int .u64 0, .int .u64 0, .int .u64 0, .int .u64 0, .int .u64 0, .int .u64 0, .int .u64 0, .int .u64 0, .int .u64 0, .int .u64 0, .int .u64 0] 42)
  obtain ⟨q, hq⟩ : ∃ q, q = w2.heap.size := ⟨_, rfl⟩
  generalize w2.alloc (.cells #[.int .u64 (m : Int), .int .u64 0, .int .u64 0, .int .u64 0, .int .u64 0, .int .u64 0, .int .u64 0, .int .u64 0, .int .u64 0, .int .u64 0, .int .u64 0, .int .u64 0, .int .u64 0, .int .u64 0, .int .u64 0] 42) = w3 at *
  have HD3 := Lib.hid ((HD2.out.below A3).still (Still.drew w3))
  have c0 := (A3.cell (p := ⟨w.heap.size, 0, none⟩) hlt).trans e0
  have c1 := (A3.cell (p := ⟨w.heap.size, 1, none⟩) hlt).trans e1
  have c2 := (A3.cell (p := ⟨w.heap.size, 2, none⟩) hlt).trans e2
  rw [← hq] at R3 A3 hlt
  have hne : w.heap.size ≠ q := by omega
  have HB3 := Lib.hid (BB2.out.trans (A3.mono (by have := BB2.out.size; omega)))
  have HR3 := Lib.hid (R3.still (Still.drew w3))
  have HQ := Lib.hid hq
  have f1 := Lib.hid (show 1 + m ≤ (content cn (List.replicate 7 0) (List.replicate 7 0)).length by simp [content]; omega)
  rw [← hq]
  have HA3 := Lib.hid A3
  clear R3 A3 e0 e1 e2 HD BB hq
  go_region_law (refine step_copy_nums rfl (.tmp 16) (.tmp 18) rfl 42 q 1 7 7 _ ks rfl HR3.out A m c rfl HD3.out.kl HD3.out.ks hn f1.out ?_; intro w4 R4 B4 K4 S4; have d0 := (World.cell?_of_block (a := ⟨w.heap.size, 0, none⟩) (K4 _ hne)).trans c0)
  have d1 := (World.cell?_of_block (a := ⟨w.heap.size, 1, none⟩) (K4 _ hne)).trans c1
  have d2 := (World.cell?_of_block (a := ⟨w.heap.size, 2, none⟩) (K4 _ hne)).trans c2
  rw [splice_keys cn ks _ (by rw [HD2.out.kl]; exact hn)] at R4
  have B24 : Below q w2 w4 := (HA3.out.trans ((Still.drew w3).below q)).trans B4
  have HD4 := Lib.hid ((HD2.out.below (by rw [← HQ.out]; exact B24)).still (Still.drew w4))
  have HR4 := Lib.hid (R4.still (Still.drew w4))
  have HB4 := Lib.hid (BB2.out.trans (B24.mono (by have := BB2.out.size; have := HQ.out; omega)))
  have f2 := Lib.hid (show 8 + m ≤ (content cn (pad7 ks) (List.replicate 7 0)).length by simp [content, length_pad7 ks (by rw [HD2.out.kl]; exact hn)]; omega)
  clear R4 B4 K4 S4 HR3 HD3 HB3 f1 c0 c1 c2 B24
  go_wp2_with fail
  go_region_law (refine step_copy_nums rfl (.tmp 21) (.tmp 23) rfl 42 q 8 7 7 _ vs rfl HR4.out B m d rfl HD4.out.vl HD4.out.vs hn f2.out ?_; intro w5 R5 B5 K5 S5; have x0 := (World.cell?_of_block (a := ⟨w.heap.size, 0, none⟩) (K5 _ hne)).trans d0)
  have x1 := (World.cell?_of_block (a := ⟨w.heap.size, 1, none⟩) (K5 _ hne)).trans d1
  have x2 := (World.cell?_of_block (a := ⟨w.heap.size, 2, none⟩) (K5 _ hne)).trans d2
  rw [splice_vals cn (pad7 ks) vs (length_pad7 ks (by rw [HD2.out.kl]; exact hn)) (by rw [HD2.out.vl]; exact hn)] at R5
  have HB5 := Lib.hid (HB4.out.trans (((Still.drew w4).below _).trans (B5.mono (by omega))))
  have HR5 := Lib.hid R5
  have hmk : (Instr.makeSlice 31 (.int .i64 123) (.int .i64 123)).run Try.prog w5 = .ok (.slice (some ⟨w5.heap.size, 0, none⟩) 123 123) (w5.alloc (.cells (vals (List.replicate 123 0)).toArray 5)) := run_make_bytes w5 123 (by omega)
  have RB := alloc_row w5 (List.replicate 123 0)
  have A6 := (Below.refl w5.heap.size w5).alloc (Nat.le_refl _) (.cells (vals (List.replicate 123 0)).toArray 5)
  have hs6 : (w5.alloc (.cells (vals (List.replicate 123 0)).toArray 5)).heap.size = w5.heap.size + 1 := by simp
  generalize w5.alloc (.cells (vals (List.replicate 123 0)).toArray 5) = w6 at *
  obtain ⟨g, hg⟩ : ∃ g, g = w5.heap.size := ⟨_, rfl⟩
  rw [← hg] at hmk RB A6 hs6
  have hqg : q < g := by rw [hg]; exact HR5.out.lt
  have hwq : w.heap.size + 1 ≤ q := by have := HQ.out; omega
  have PS := Lib.hid (pen_start w6 g RB)
  have a7 := (Below.refl w6.heap.size w6).alloc (Nat.le_refl _) (.cells #[.slice (some ⟨g, 0, none⟩) 123 123] 31)
  have a8 := a7.alloc a7.size (.cells #[.int .i64 0] 3)
  have A8 := Lib.hid ((A6.mono (Nat.le_refl g)).trans (a8.mono (by omega)))
  have HR6 := Lib.hid (HR5.out.below hqg A8.out)
  have HG := Lib.hid hg
  have HS6 := Lib.hid hs6
  clear R5 B5 K5 S5 HR4 HD4 HB4 f2 d0 d1 d2 hg hs6 a7 a8
  go_wp2_with fail
  have hs6 := HS6.out
  have y0 := (A8.out.cell (p := ⟨w.heap.size, 0, none⟩) (show w.heap.size < g by omega)).trans x0
  have y1 := (A8.out.cell (p := ⟨w.heap.size, 1, none⟩) (show w.heap.size < g by omega)).trans x1
  have y2 := (A8.out.cell (p := ⟨w.heap.size, 2, none⟩) (show w.heap.size < g by omega)).trans x2
  have HB8 := Lib.hid (HB5.out.trans (A8.out.mono (by have := HG.out; omega)))
  generalize (w6.alloc (.cells #[.slice (some ⟨g, 0, none⟩) 123 123] 31)).alloc (.cells #[.int .i64 0] 3) = w8 at *
  have hgb : g + 1 = w6.heap.size := by have := HG.out; omega
  refine (each_enc (B := w.heap.size + 1) PS.out HR6.out (length_pad7 ks (by rw [HD2.out.kl]; exact hn)) (length_pad7 vs (by rw [HD2.out.vl]; exact hn)) (by rw [hcn]; omega) (by omega) (by omega) (by omega) hwq (by omega) (by omega)).mono ?_
  rintro e w9 ⟨rfl, P9, B9⟩
  dsimp only
  have z0 := (B9.cell (p := ⟨w.heap.size, 0, none⟩) (by simp)).trans y0
  have z1 := (B9.cell (p := ⟨w.heap.size, 1, none⟩) (by simp)).trans y1
  have z2 := (B9.cell (p := ⟨w.heap.size, 2, none⟩) (by simp)).trans y2
  have v5 := P9.cb
  have h9 := P9.has
  rw [body_all cn ks vs (by rw [hcn]; exact HD2.out.kl.symm) (by rw [HD2.out.vl, HD2.out.kl]) (by rw [HD2.out.kl]; exact hn)] at h9
  have HB9 := Lib.hid (HB8.out.trans (B9.mono (by omega)))
  have HL := Lib.hid (length_fullBody ks vs (by rw [HD2.out.vl, HD2.out.kl]) (by rw [HD2.out.kl]; exact hn))
  have HLT := Lib.hid (And.intro (has_lt h9 (by rw [HL.out]; decide)) (World.block_lt_of_cell? w9 _ v5))
  have H9 := Lib.hid (h9.still (Still.drew w9))
  have V9 := Lib.hid (((Still.drew w9).cell ⟨w6.heap.size, 0, none⟩).trans v5)
  clear P9 B9 h9 y0 y1 y2 HB8 PS HR6 x0 x1 x2 A8 A6
  go_wp2_with fail
  clear hs6 hgb hcn hmk RB
  have b9 := (HB9.out.trans ((Still.drew w9).below _)).size
  go_region_with (first | (go_at_call 18; refine (kind_any l _ _ _).mono ?_; rintro e w10 ⟨rfl, B10⟩; have v10 := (B10.cell (p := ⟨w6.heap.size, 0, none⟩) HLT.out.2).trans V9.out; have T10 := Lib.hid ((H9.out.below HLT.out.1 B10).told); have HB10 := Lib.hid ((HB9.out.trans ((Still.drew w9).below _)).trans (B10.mono b9)); clear B10) | (go_at_call 17; refine (seal_any (kindN l) _ 123 123 (fullBody ks vs) HL.out _ (by decide) T10.out).mono ?_; rintro e w11 ⟨g', rfl, F11⟩; have HF11 := Lib.hid F11; clear F11))
  all_goals
    have HFIN := Lib.hid (fresh_back HB10.out HF11.out)
    have HPG := Lib.hid (show page (kindN l) (fullBody ks vs) = page (kindN l) (nodeBody ks vs) from page_pad _ _ (by have := length_nodeBody ks vs (by rw [HD2.out.vl, HD2.out.kl]); have := HD2.out.kl; omega))
    go_wp2_with fail
    go_ret2
    exact ⟨g', rfl, by rw [← HPG.out]; exact HFIN.out⟩
end Go.Proofs.Ytngigpciipdogaa.Lf
