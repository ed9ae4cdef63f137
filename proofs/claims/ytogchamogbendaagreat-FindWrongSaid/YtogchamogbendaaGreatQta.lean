import Derived.Test.YtogchamogbendaaGreatRows
import Derived.WalkKit
import Derived.ProofKit
import Derived.OpenShut
import Derived.ShutString
import Derived.ChangeOld
import Derived.Below
import Derived.Lib.Hide
import Derived.WalkSpells
import Derived.WalkLawsBesides
import Derived.Lib.ConvBytes
import Derived.Deep.QuietTactic
import Derived.BigQuiet
import Derived.Laws.CopyOwn
import Derived.Deep.AppendLies
set_option maxRecDepth 100000
set_option linter.unusedVariables false
set_option linter.unusedSimpArgs false
namespace Go.Proofs.YtogchamogbendaaGreat.Oct
open Go.RowKit
def Has (w:World) (b o:Nat) (bs:List UInt8):Prop := ∀i (h:i<bs.length),w.cell? ⟨b,o+i,none⟩=some (.int .u8 (bs[i].toNat:Int))
theorem ret_int {k:IntKind} {a b:Int} (h:a=b):Ending.returned (.int k a) = .returned (.int k b):=by rw [h]
theorem snoc_ind {α:Type} {P:List α→Prop} (h0:P []) (h1 : ∀l a,P l→P (l ++ [a])) (l:List α):P l:=by
 rw [← l.reverse_reverse]
 induction l.reverse with
 | nil=>exact h0
 | cons a t ih=>rw [List.reverse_cons]; exact h1 _ _ ih
theorem u8_lt (c:UInt8):c.toNat<256:=c.toNat_lt
theorem set_other {w:World} {b i j:Nat} {v:Value} (h:i≠j):(w.setCell ⟨b,i,none⟩ v).cell? ⟨b,j,none⟩=w.cell? ⟨b,j,none⟩:=World.cell?_setCell_other _ _ _ _ (fun e=>h (Addr.mk.inj e).2.1)
theorem set_same {w:World} {a:Addr} {u v:Value} (h:w.cell? a=some u):(w.setCell a v).cell? a=some v:=World.cell?_setCell_same _ _ _ h
structure Wrote (w w':World) (b lo hi:Nat):Prop where
 os:w'.os=w.os
 tape:w'.tape=w.tape
 output:w'.output=w.output
 size:w'.heap.size=w.heap.size
 block : ∀k,k≠b→w'.heap[k]?=w.heap[k]?
 frz : ∀a,w'.frozen? a=w.frozen? a
 cell : ∀i,(i<lo∨hi≤i)→w'.cell? ⟨b,i,none⟩=w.cell? ⟨b,i,none⟩
 typ : ∀cs t,w.heap[b]?=some (.cells cs t (0,0)) → ∃cs',w'.heap[b]?=some (.cells cs' t (0,0))
theorem Wrote.refl (w:World) (b lo hi:Nat):Wrote w w b lo hi:=⟨rfl,rfl,rfl,rfl,fun _ _=>rfl,fun _=>rfl,fun _ _=>rfl,fun cs _ h=>⟨cs,h⟩⟩
theorem Wrote.set {w w':World} {b lo hi i:Nat} (h:Wrote w w' b lo hi) (h1:lo≤i) (h2:i<hi) (v:Value):Wrote w (w'.setCell ⟨b,i,none⟩ v) b lo hi :=
  ⟨h.os,h.tape,h.output,by simp [h.size],fun k hk=>(heap_setCell_other _ _ _ _ hk).trans (h.block k hk),fun a=>by simp [h.frz],
   fun j hj=>(set_other (by omega)).trans (h.cell j hj),fun cs t e=>by
     obtain ⟨cs',e'⟩:=h.typ cs t e
     exact ⟨_,heap_setCell_same w' b i _ _ v e'⟩⟩
theorem Wrote.below {w w':World} {b lo hi B:Nat} (h:Wrote w w' b lo hi) (hB:B≤b):Below B w w' :=
 ⟨h.os,h.tape,h.output,by rw [h.size]; exact Nat.le_refl _,fun k hk=>h.block k (by omega)⟩
theorem Wrote.other {w w':World} {b lo hi c:Nat} (h:Wrote w w' b lo hi) (hc:c≠b) (i:Nat):w'.cell? ⟨c,i,none⟩=w.cell? ⟨c,i,none⟩ :=
 World.cell?_of_block (h.block c hc)
def Free (w:World) (b o n:Nat):Prop := ∀i,i<n→w.frozen? ⟨b,o+i,none⟩=false
def Told (w:World) (a:Option Addr) (bs:List UInt8):Prop:=bs = [] ∨ ∃b o,a=some ⟨b,o,none⟩∧Has w b o bs
theorem Has.told {w:World} {b o:Nat} {bs:List UInt8} (h:Has w b o bs):Told w (some ⟨b,o,none⟩) bs := .inr ⟨b,o,rfl,h⟩
theorem conv_told {P:Program} {w:World} {a:Option Addr} {bs:List UInt8} (h:Told w a bs) (cap:Nat) (src dst e:TypeId)
  (hs:P.underlying src=some (.slice e)) (he:P.underlying e=some (.int .u8)) (hd:P.underlying dst=some .string) :
  (convert src dst (.slice a bs.length cap)).run P w = .ok (.string ⟨bs.toArray⟩) w:=by
 rcases h with rfl | ⟨b,o,rfl,h⟩
 ·rw [run_convert_bytes_string w src dst e a _ cap hs he hd]
  cases a with
  | none =>
   simp [Conv.bytesToString,ByteArray.empty,ByteArray.emptyWithCapacity]
   rfl
  | some x =>
   have h0:=run_loadCells_list (P:=P) w x [] (fun j v hj=>by simp at hj)
   exact run_bytesToString (P:=P) w x 0 cap [] (by simpa using h0)
 ·have h1:=run_convert_bytes_arg (P:=P) w src e hs he b o bs.length cap (bs.map fun c=>(c.toNat:Int)) (by simp) (fun i hi=>by
   rw [h i hi]; simp [List.getD,hi]) dst hd
  rw [h1]
  congr 2
  unfold strOfNums
  congr 2
  rw [List.map_map]
  conv=>rhs; rw [← List.map_id bs]
  apply List.map_congr_left
  intro c _
  simp
structure Fresh (w w':World) (g:Nat) (bs:List UInt8) (cap:Nat):Prop where
 below:Below w.heap.size w w'
 lo:w.heap.size≤g
 hi:g<w'.heap.size
 has:Has w' g 0 bs
 free:Free w' g 0 bs.length
 len:bs.length≤cap
 cap:cap≤maxLen
 typ : ∃cs fr,w'.heap[g]?=some (.cells cs 5 fr)
structure Still (w w':World):Prop where
 os:w'.os=w.os
 tape:w'.tape=w.tape
 output:w'.output=w.output
 heap:w'.heap=w.heap
theorem Still.below {w w':World} (h:Still w w') (B:Nat):Below B w w':=⟨h.os,h.tape,h.output,by rw [h.heap]; exact Nat.le_refl _,fun _ _=>by rw [h.heap]⟩
theorem Still.cell {w w':World} (h:Still w w') (a:Addr):w'.cell? a=w.cell? a:=by simp [World.cell?,h.heap]
theorem Still.frozen {w w':World} (h:Still w w') (a:Addr):w'.frozen? a=w.frozen? a:=by simp [World.frozen?,h.heap]
theorem Still.drewN (w:World) (n:Nat):Still w (w.drewN n):=⟨rfl,rfl,rfl,rfl⟩
def vals (bs:List UInt8):List Value:=bs.map fun c => .int .u8 (c.toNat:Int)
theorem length_vals (bs:List UInt8):(vals bs).length=bs.length:=by simp [vals]
def Row (w:World) (g:Nat) (bs:List UInt8):Prop:=w.heap[g]?=some (.cells (vals bs).toArray 5 (0,0))
theorem Row.has {w:World} {g:Nat} {bs:List UInt8} (h:Row w g bs):Has w g 0 bs:=by
 intro i hi
 unfold Row at h
 simp [World.cell?,h,vals,hi]
theorem Row.free {w:World} {g:Nat} {bs:List UInt8} (h:Row w g bs) (o n:Nat):Free w g o n:=by
 intro i hi
 unfold Row at h
 simp [World.frozen?,h]
theorem Row.still {w w':World} {g:Nat} {bs:List UInt8} (h:Row w g bs) (hs:Still w w'):Row w' g bs:=by
 unfold Row at h ⊢
 rw [hs.heap,h]
theorem Row.set {w:World} {g:Nat} {bs:List UInt8} (h:Row w g bs) (i:Nat) (c:UInt8):Row (w.setCell ⟨g,i,none⟩ (.int .u8 (c.toNat:Int))) g (bs.set i c):=by
 unfold Row at h ⊢
 rw [heap_setCell_same w g i _ _ _ h]
 congr 2
 simp [vals,List.map_set]
theorem Has.cut {w:World} {b o:Nat} {bs:List UInt8} (h:Has w b o bs) (p s:Nat):Has w b (o+p) ((bs.drop p).take s):=by
 intro i hi
 simp only [List.length_take,List.length_drop] at hi
 have:=h (p+i) (by omega)
 rw [Nat.add_assoc,this]
 simp
theorem Has.pre {w:World} {b o:Nat} {bs:List UInt8} (h:Has w b o bs) (s:Nat):Has w b o (bs.take s):=by
 have:=h.cut 0 s
 rwa [Nat.add_zero,List.drop_zero] at this
theorem Has.join {w:World} {b o:Nat} {xs ys:List UInt8} (h:Has w b o xs) (k:Has w b (o+xs.length) ys):Has w b o (xs++ys):=by
 intro i hi
 rw [List.length_append] at hi
 by_cases h1:i<xs.length
 ·rw [h i h1,List.getElem_append_left h1]
 ·have:=k (i-xs.length) (by omega)
  rw [show o+xs.length+(i-xs.length)=o+i by omega] at this
  rw [this,List.getElem_append_right (by omega)]
theorem made_zeros (n:Nat):madeCells (Value.int .u8 0).cells n=(vals (List.replicate n 0)).toArray:=by
 apply Array.ext
 ·simp [madeCells,vals]
 ·intro i h1 h2
  simp [madeCells,vals,Value.cells,Nat.mod_one]
theorem run_make_bytes (w:World) (n:Nat) (hn:n≤281474976710656) :
  (Instr.makeSlice 45 (.int .i64 (n:Int)) (.int .i64 (n:Int))).run Tryz.prog w = .ok (.slice (some ⟨w.heap.size,0,none⟩) n n) (w.alloc (.cells (vals (List.replicate n 0)).toArray 5)):=by
 have i0:(Tryz.prog.info? 5).map (fun i=>(i.zero,i.size,i.bytes))=some (some (.int .u8 0),1,1):=by kernel_rfl
 obtain ⟨i0,hi,hz0,hz1,hz2⟩:=info_parts i0
 have h:=run_make (P:=Tryz.prog) w 45 5 i0 (.int .u8 0) Tryz.underlying45 hi hz0 .i64 .i64 n n (by omega) (by omega) (by rw [hz2]; omega) (by omega)
 rw [hz1,Nat.mul_one,Int.toNat_natCast,made_zeros] at h
 exact h
theorem add_plain (b o j:Nat):(⟨b,o,none⟩:Addr).add j=⟨b,o+j,none⟩:=by unfold Addr.add; split <;> simp_all
theorem run_copy_bytes (w:World) (ty:TypeId) (g off dLen dCap:Nat) (cur bs:List UInt8) (R:Row w g cur) (a:Option Addr) (len cap:Nat) (hlen:bs.length=len) (hT:Told w a bs) (hd:len≤dLen) (hfit:off+len≤cur.length) :
  ∃w',(Builtin.copy_ #[45,45] ty #[.slice (some ⟨g,off,none⟩) dLen dCap,.slice a len cap]).run Tryz.prog w = .ok (goInt len) w'∧Row w' g (splice cur off bs)∧Below g w w':=by
 have hsz:(Tryz.prog.info? 5).map (·.size)=some 1:=by kernel_rfl
 rcases hT with rfl | ⟨b,o,rfl,hT⟩
 ·obtain rfl:len=0:=by simpa using hlen.symm
  refine ⟨w,run_copy_none (P:=Tryz.prog) w _ _ ty 5 _ a dLen dCap 0 cap Tryz.underlying45 hsz (Nat.min_eq_left (Nat.zero_le _)),?_,Below.refl _ _⟩
  simpa [splice] using R
 ·have h:=run_copy_row (P:=Tryz.prog) w 45 45 ty 5 g off dLen dCap ⟨b,o,none⟩ len cap (vals cur).toArray 5 (vals bs) Tryz.underlying45 hsz R
   (by rw [length_vals,hlen]; exact (Nat.min_eq_left hd).symm)
   (fun j v hj=>by
    have hjl:j<bs.length:=by
     rcases Nat.lt_or_ge j bs.length with h | h
     ·exact h
     ·rw [List.getElem?_eq_none (by rw [length_vals]; exact h)] at hj; cases hj
    have hv:v = .int .u8 (bs[j].toNat:Int):=by simpa [vals,hjl] using hj.symm
    rw [hv,add_plain]
    exact hT j hjl)
   (by rw [length_vals,hlen]; simpa [length_vals] using hfit)
   (fun v hv=>by simp [vals] at hv; obtain ⟨c,_,rfl⟩:=hv; rfl)
  rw [length_vals,hlen] at h
  refine ⟨_,h,?_,⟨rfl,rfl,rfl,by simp,fun k hk=>setRow_other w g k _ (by omega)⟩⟩
  unfold Row
  rw [setRow_heap w g _ _ _ _ R]
  rw [show List.take off (vals cur).toArray.toList++vals bs++List.drop (off+len) (vals cur).toArray.toList=vals (splice cur off bs) from by simp [splice,vals,List.map_take,List.map_drop,hlen]]
theorem alloc_row (w:World) (bs:List UInt8):Row (w.alloc (.cells (vals bs).toArray 5)) w.heap.size bs:=heap_alloc_new w _
theorem Wrote.has {w w':World} {b lo hi o:Nat} {bs:List UInt8} (W:Wrote w w' b lo hi) (H:Has w b o bs) (h:o+bs.length≤lo∨hi≤o):Has w' b o bs :=
 fun i hi=>(W.cell _ (by omega)).trans (H i hi)
theorem Row.lt {w:World} {g:Nat} {bs:List UInt8} (h:Row w g bs):g<w.heap.size:=(Array.getElem?_eq_some_iff.1 h).1
theorem splice_all {α:Type} (L cs:List α) (h:cs.length=L.length):splice L 0 cs=cs:=by
 unfold splice
 simp [h]
theorem Has.still {w w':World} {b o:Nat} {bs:List UInt8} (h:Has w b o bs) (S:Still w w'):Has w' b o bs:=fun i hi=>(S.cell _).trans (h i hi)
theorem Has.below {w w':World} {b o B:Nat} {bs:List UInt8} (h:Has w b o bs) (hb:b<B) (k:Below B w w'):Has w' b o bs:=fun i hi=>(k.cell hb).trans (h i hi)
theorem set_split {α:Type} (l:List α) (i:Nat) (h:i<l.length) (c:α):l.set i c=l.take i++c :: l.drop (i+1):=by
 rw [List.set_eq_take_append_cons_drop,if_pos h]
theorem get_split {α:Type} (l:List α) (i:Nat) (h:i<l.length):l=l.take i++l[i] :: l.drop (i+1):=by
 rw [List.getElem_cons_drop,List.take_append_drop]
def IsRow (k:IntKind) (w:World) (a:Option Addr) (len cap:Nat) (zs:List Int):Prop :=
 (a=none∧len=0∧cap=0∧zs = []) ∨
 ∃x,a=some x∧len≤cap∧cap≤maxLen∧zs.length=cap∧(∀i,i<zs.length→w.cell? (x.add i)=some (.int k (zs.getD i 0))) ∧ ∀n∈zs,(Lit.int k n).wf=true
theorem u8_wf {n:Int} (h:(Lit.int .u8 n).wf=true):0≤n∧n≤255:=by
 have h2:IntKind.u8.min≤n∧n≤IntKind.u8.max:=by simpa [Lit.wf] using h
 exact h2
structure Came (w:World) (a:Option Addr) (len cap:Nat) (bs:List UInt8):Prop where
 hlen:bs.length=len
 told:Told w a bs
 le:len≤cap
 hcap:cap≤maxLen
 old:bs ≠ [] → ∃b o,a=some ⟨b,o,none⟩∧Has w b o bs∧b<w.heap.size
theorem came {w:World} {a:Option Addr} {len cap:Nat} {zs:List Int} (h:IsRow .u8 w a len cap zs) : ∃bs,Came w a len cap bs:=by
 rcases h with ⟨rfl,rfl,rfl,rfl⟩ | ⟨x,rfl,hl,hm,hz,hc,hw⟩
 ·exact ⟨[],rfl,.inl rfl,Nat.le_refl _,Nat.zero_le _,fun h=>absurd rfl h⟩
 ·have hlen:((zs.take len).map fun n=>UInt8.ofNat n.toNat).length=len:=by simp; omega
  have key:0<len → ∃b o,x=⟨b,o,none⟩∧Has w b o ((zs.take len).map fun n=>UInt8.ofNat n.toNat)∧b<w.heap.size:=fun h0=>by
   have h1:=hc 0 (by omega)
   obtain ⟨b,o,spot⟩:=x
   have hspot:spot=none:=by simpa [Addr.add] using World.cell?_spot h1
   subst hspot
   rw [add_plain] at h1
   refine ⟨b,o,rfl,fun i hi => ?_,World.block_lt_of_cell? w _ h1⟩
   rw [hlen] at hi
   have h2:=hc i (by omega)
   rw [add_plain] at h2
   have hi2:i<zs.length:=by omega
   have h3:=u8_wf (hw zs[i] (List.getElem_mem hi2))
   rw [h2]
   simp [List.getD,hi2]
   omega
  refine ⟨_,hlen,?_,hl,hm,fun hne => ?_⟩
  ·rcases Nat.eq_zero_or_pos len with h0 | h0
   ·left
    exact List.eq_nil_of_length_eq_zero (by rw [hlen,h0])
   ·obtain ⟨b,o,rfl,h,_⟩:=key h0
    exact .inr ⟨b,o,rfl,h⟩
  ·have h0:0<len:=by rw [← hlen]; exact List.length_pos_iff.2 hne
   obtain ⟨b,o,rfl,h,k⟩:=key h0
   exact ⟨b,o,rfl,h,k⟩
def Some8 (w:World) (b n:Nat):Prop := ∃cs:List UInt8,cs.length=n∧Has w b 0 cs
structure Over (w wr:World) (b n:Nat):Prop where
 wrote:Wrote w wr b 0 n
 some8:Some8 wr b n
def Own (w:World) (base:Nat) (v:Value) (bs:List UInt8):Prop:=w.ownsRow base 5 1 v bs.length (vals bs)
theorem Own.lit (w:World) (base:Nat) (bs:List UInt8) (hb:base≤w.heap.size) (hm:bs.length≤maxLen) :
  Own (w.alloc (.cells (vals bs).toArray 5)) base (.slice (some ⟨w.heap.size,0,none⟩) bs.length bs.length) bs :=
 World.ownsRow_lit w (vals bs).toArray bs.length hb hm (by simp [length_vals])
theorem Own.slice {w:World} {base:Nat} {v:Value} {bs:List UInt8} (h:Own w base v bs) :
  ∃a cap,v = .slice a bs.length cap∧Told w a bs∧bs.length≤cap∧cap≤maxLen∧(bs ≠ [] → ∃g,a=some ⟨g,0,none⟩∧base≤g∧g<w.heap.size∧Has w g 0 bs):=by
 rcases h.2 with ⟨rfl,h0⟩ | ⟨g,cap,cur,rfl,hb,hg,hn,hm,hs,ht⟩
 ·have:bs = []:=List.eq_nil_of_length_eq_zero h0
  subst this
  exact ⟨none,0,rfl,.inl rfl,Nat.le_refl _,Nat.zero_le _,fun h=>absurd rfl h⟩
 ·have hh:Has w g 0 bs:=fun i hi=>by
   rw [Nat.zero_add]
   have:=World.ownsRow.cellAt h i (by omega)
   rw [this]
   simp [vals,hi]
  exact ⟨_,cap,rfl,hh.told,hn,hm,fun _=>⟨g,rfl,hb,(Array.getElem?_eq_some_iff.1 hg).1,hh⟩⟩
theorem byte_info:(Tryz.prog.info? 5).map (fun i=>(i.zero,i.size,i.bytes))=some (some (.int .u8 0),1,1):=by kernel_rfl
theorem run_append_bytes (w:World) (ty:TypeId) (base:Nat) (v:Value) (xs ys:List UInt8) (hown:Own w base v xs) (a:Option Addr) (len cap:Nat) (hlen:ys.length=len) (hT:Told w a ys) (hnil:a=none→cap=0)
  (hsz:xs.length+len≤140737488355328) (hbase:base≤w.heap.size) :
  ∃v' w',(Builtin.append_ #[45,45] ty #[v,.slice a len cap]).run Tryz.prog w = .ok v' w'∧Own w' base v' (xs++ys)∧Below base w w':=by
 obtain ⟨i0,hi,hz0,hz1,hz2⟩:=info_parts byte_info
 cases a with
 | none =>
  have h0:ys = []:=by
   rcases hT with h | ⟨b,o,h,_⟩
   ·exact h
   ·cases h
  subst h0
  obtain rfl:len=0:=by simpa using hlen.symm
  rw [hnil rfl]
  exact ⟨v,w,run_append_owned_none (P:=Tryz.prog) (w:=w) base 45 ty 5 i0 1 Tryz.underlying45 hi v _ _ hown,by simpa using hown,Below.refl _ _⟩
 | some x =>
  have hnews : ∀j u,(vals ys)[j]?=some u→w.cell? (x.add j)=some u:=fun j u hj=>by
   have hjl:j<ys.length:=by
    rcases Nat.lt_or_ge j ys.length with h | h
    ·exact h
    ·rw [List.getElem?_eq_none (by rw [length_vals]; exact h)] at hj; cases hj
   have hv:u = .int .u8 (ys[j].toNat:Int):=by simpa [vals,hjl] using hj.symm
   rcases hT with h | ⟨b,o,h,k⟩
   ·subst h; simp at hjl
   ·cases h
    rw [hv,add_plain]
    exact k j hjl
  obtain ⟨v',w',hr,ho,hg,_⟩:=run_append_own (P:=Tryz.prog) w base 45 ty 5 i0 (.int .u8 0) 1 1 Tryz.underlying45 hi hz0 hz1 hz2 rfl (by omega) v xs.length (vals xs) hown x len cap (vals ys)
   (by rw [length_vals,hlen,Nat.mul_one]) hnews (fun u hu=>by simp [vals] at hu; obtain ⟨c,_,rfl⟩:=hu; rfl) (by unfold maxLen; omega) (by omega) hbase
  refine ⟨v',w',hr,?_,⟨hg.os,hg.tape,hg.output,hg.size,fun k hk=>hg.block k (by omega) (fun e => ?_)⟩⟩
  ·unfold Own
   rw [List.length_append,hlen,show vals (xs++ys)=vals xs++vals ys by simp [vals]]
   exact ho
  ·have:=(World.ownsRow.lt hown k e.symm).1
   omega
theorem own_none (w:World):Own (w.alloc (.cells #[] 5)) w.heap.size (.slice (some ⟨w.heap.size,0,none⟩) 0 0) []:=Own.lit w w.heap.size [] (Nat.le_refl _) (by decide)
theorem alloc_base (w:World) (o:Obj):w.heap.size≤(w.alloc o).heap.size:=by simp
theorem Told.alloc {w:World} {a:Option Addr} {ys:List UInt8} (hT:Told w a ys) (o:Obj):Told (w.alloc o) a ys:=by
 rcases hT with h | ⟨b,o',h,k⟩
 ·exact .inl h
 ·by_cases h0:ys = []
  ·exact .inl h0
  ·exact .inr ⟨b,o',h,k.below (World.block_lt_of_cell? w _ (k 0 (List.length_pos_iff.2 h0))) ((Below.refl _ _).alloc (Nat.le_refl _) _)⟩
theorem Own.sliceLen {w:World} {base q len cap:Nat} {bs:List UInt8} (h:Own w base (.slice (some ⟨q,0,none⟩) len cap) bs):len=bs.length:=by
 rcases h.2 with ⟨h',_⟩ | ⟨g,cap',cur,h',_⟩
 ·simp at h'
 ·simp only [Value.slice.injEq] at h'
  exact h'.2.1
theorem Own.has {w:World} {base q len cap:Nat} {bs:List UInt8} (h:Own w base (.slice (some ⟨q,0,none⟩) len cap) bs):Has w q 0 bs:=by
 obtain rfl:=h.sliceLen
 intro i hi
 rw [Nat.zero_add,World.ownsRow.cellAt h i (by omega)]
 simp [vals,hi]
theorem wpList_append_run {P:Program} {w:World} {ops:Array Oper} {rest:List Oper} {o:Oper} {a:Act} {Q:Exit→Act→World→Prop} (hgd:o.guard=none) (s x:Operand) (t:TypeId)
  (ho:o.op = .call { callee := .builtin .append,args := #[s,x],argTypes := #[t,t] }) (v1 v2:Value) (hs:a.eval s=v1) (hx:a.eval x=v2) (v':Value) (w':World)
  (hrun:(Builtin.append_ #[t,t] o.type #[v1,v2]).run P w = .ok v' w') (h:wpList P ops Q rest (a.put o.dst v') w'):wpList P ops Q (o :: rest) a w:=by
 refine wpList_plain hgd fun K hK => ?_
 unfold Oper.wp
 simp [execOp,ho,resolve,invoke,builtin,hs,hx,hrun,Result.andThen]
 exact hK _ _ h
end Go.Proofs.YtogchamogbendaaGreat.Oct
namespace Go.Proofs.YtogchamogbendaaGreat.Oct
open Go.RowKit
end Go.Proofs.YtogchamogbendaaGreat.Oct
