import Derived.Test.YtogchamogbendaaGreatQtt
import Derived.Test.YtogchamogbendaaGreatQty
import Derived.Test.YtogchamogbendaaGreatQtg
set_option maxRecDepth 100000
set_option linter.unusedVariables false
set_option linter.unusedSimpArgs false
namespace Go.Proofs.YtogchamogbendaaGreat.Bs
open Lib (hid)
open Go.RowKit Oct Mv Tl Pk Pl Go.Maps Go.ChangeMaps
open Lf (Nd Fit nodePage RowN ToldN)
open No (atR at_any)
theorem at_is {l:Bool} {ks vs:List UInt64} {k:UInt64} (h:(atR l ks vs k).2.1=true):(atR l ks vs k).1<vs.length:=by
 unfold atR at h ⊢
 by_cases q:No.Ok l ks vs
 ·rw [if_pos q] at h ⊢
  have hk:k∈ks:=of_decide_eq_true h
  show (if l=false∧k∉ks then No.low ks k-1 else No.low ks k)<vs.length
  rw [if_neg (fun z=>z.2 hk),q.2.1]
  exact No.low_lt hk
 ·rw [if_neg q] at h
  cases h
noncomputable def getF (t:WR) (key:UInt64):UInt64×Bool×Nat :=
 if t.e≠0 then (0,false,t.e) else if (atR t.l t.ks t.vs key).2.1 then (t.vs.getD (atR t.l t.ks t.vs key).1 0,true,0) else (0,false,0)
section
variable {Pr:Nat→Prop} {w w':World} {A:Adr} {x:BS}
set_option maxHeartbeats 2000000 in
theorem get_of {b:Value} (root:Int) (key:UInt64) (t:WR) (hdn:Calls Tryz.prog 117 #[b,.int .i64 root,.int .u64 (key.toNat:Int)] w (WayOut t w)) (g:UInt64×Bool×Nat) (hg:g=getF t key) :
  Calls Tryz.prog 53 #[b,.int .i64 root,.int .u64 (key.toNat:Int)] w fun e w'=>e = .returned (.tuple #[.int .u64 (g.1.toNat:Int),.bool g.2.1,.int .i64 (g.2.2:Nat)])∧Below w.heap.size w w':=by
 have HDN:=hid hdn
 have HG:=hid hg
 clear hdn hg
 go_enter Tryz.func53,Tryz.ntmps53
 go_wp2_with fail
 refine HDN.out.mono ?_
 rintro e w1 ⟨K,k,V,v,rfl,hnd,B1,nK,nV⟩
 have HND:=hid hnd
 have r9:=alloc_rowV w1 189 [.bool t.l,.slice K t.ks.length k,.slice V t.vs.length v,.int .i64 (t.high:Nat),.int .u64 (t.last.toNat:Int)]
 have b9:=(Below.refl w1.heap.size w1).alloc (Nat.le_refl _) (.cells #[.bool t.l,.slice K t.ks.length k,.slice V t.vs.length v,.int .i64 (t.high:Nat),.int .u64 (t.last.toNat:Int)] 189)
 have HB1:=hid B1
 clear hnd B1 nK nV
 go_upto_region 2 with (fail)
 obtain ⟨X,hX⟩ : ∃X,X=w1.heap.size:=⟨_,rfl⟩
 have R9:=hid r9
 have HB9:=hid (HB1.out.trans (b9.mono HB1.out.size))
 have HND9:=hid (HND.out.below b9)
 rw [← hX] at R9 ⊢
 clear r9 b9 hX HND
 simp only [List.toArray] at *
 generalize w1.alloc (.cells #[.bool t.l,.slice K t.ks.length k,.slice V t.vs.length v,.int .i64 (t.high:Nat),.int .u64 (t.last.toNat:Int)] 189)=w2 at *
 by_cases he:t.e=0
 ·have heb:((t.e:Nat):Int)=0:=by omega
  rw [heb]
  have c0:=R9.out.cellAt (i:=0) rfl
  have c1:=R9.out.cellAt (i:=1) rfl
  have c2:=R9.out.cellAt (i:=2) rfl
  go_wp2_with fail
  refine (at_any t.l HND9.out key _ rfl).mono ?_
  rintro e w3 ⟨rfl,kz⟩
  have HND3:=hid (HND9.out.below kz)
  have R3:=hid (R9.out.below R9.out.lt kz)
  have HB3:=hid (HB9.out.trans (kz.mono HB9.out.size))
  clear kz HND9 R9 HB9 c0 c1 c2
  cases his:(atR t.l t.ks t.vs key).2.1 with
  | true =>
   have hlt:=at_is his
   obtain ⟨a,ha⟩ : ∃a,a=(atR t.l t.ks t.vs key).1:=⟨_,rfl⟩
   have HG2:=hid (show g=(t.vs.getD a 0,true,0) from by rw [HG.out]; unfold getF; rw [if_neg (fun q=>q he),if_pos his,ha])
   rw [← ha] at hlt ⊢
   obtain ⟨bV,oV,eV,hV⟩ : ∃b o,V=some ⟨b,o,none⟩∧Lf.HasN w3 b o t.vs:=by
    rcases HND3.out.vs with q | q
    ·rw [q] at hlt
     simp at hlt
    ·exact q
   subst eV
   have hcell:=hV a hlt
   obtain ⟨vv,hvv⟩ : ∃vv,vv=t.vs[a]:=⟨_,rfl⟩
   rw [← hvv] at hcell
   have HV:=hid (show t.vs.getD a 0=vv from by rw [hvv,List.getD_eq_getElem?_getD,List.getElem?_eq_getElem hlt]; rfl)
   have hai:(a:Int)<(t.vs.length:Int):=by omega
   have ha0:(0:Int)≤(a:Int):=by omega
   have c2:=R3.out.cellAt (i:=2) rfl
   clear ha hvv hV his
   go_wp2_with fail
   refine bodyPost_ret (v:=_) (res_three rfl _) rfl ⟨?_,HB3.out⟩
   rw [HG2.out,HV.out]
   rfl
  | false =>
   have HG2:=hid (show g=(0,false,0) from by rw [HG.out]; unfold getF; rw [if_neg (fun q=>q he),if_neg (by rw [his]; decide)])
   clear his
   go_wp2_with fail
   refine bodyPost_ret (v:=_) (res_three rfl _) rfl ⟨?_,HB3.out⟩
   rw [HG2.out]
   rfl
 ·have hei : ¬(((t.e:Nat):Int)=0):=by omega
  go_wp2_with fail
  refine bodyPost_ret (v:=_) (res_three rfl _) rfl ⟨?_,HB9.out⟩
  rw [HG.out]
  unfold getF
  rw [if_pos he]
  rfl
set_option maxHeartbeats 1000000 in
theorem height_of {b:Value} (root:Int) (t:WR) (hdn:Calls Tryz.prog 117 #[b,.int .i64 root,.int .u64 0] w (WayOut t w)) :
  Calls Tryz.prog 56 #[b,.int .i64 root] w fun e w'=>e = .returned (.tuple #[.int .i64 (t.high:Nat),.int .i64 (t.e:Nat)])∧Below w.heap.size w w':=by
 have HDN:=hid hdn
 clear hdn
 go_enter Tryz.func56,Tryz.ntmps56
 go_wp2_with fail
 refine HDN.out.mono ?_
 rintro e w1 ⟨K,k,V,v,rfl,hnd,B1,nK,nV⟩
 have r9:=alloc_rowV w1 189 [.bool t.l,.slice K t.ks.length k,.slice V t.vs.length v,.int .i64 (t.high:Nat),.int .u64 (t.last.toNat:Int)]
 have b9:=(Below.refl w1.heap.size w1).alloc (Nat.le_refl _) (.cells #[.bool t.l,.slice K t.ks.length k,.slice V t.vs.length v,.int .i64 (t.high:Nat),.int .u64 (t.last.toNat:Int)] 189)
 have HB1:=hid B1
 clear hnd B1 nK nV
 go_upto_region 2 with (fail)
 obtain ⟨X,hX⟩ : ∃X,X=w1.heap.size:=⟨_,rfl⟩
 have R9:=hid r9
 have HB9:=hid (HB1.out.trans (b9.mono HB1.out.size))
 rw [← hX] at R9 ⊢
 clear r9 b9 hX
 simp only [List.toArray] at *
 generalize w1.alloc (.cells #[.bool t.l,.slice K t.ks.length k,.slice V t.vs.length v,.int .i64 (t.high:Nat),.int .u64 (t.last.toNat:Int)] 189)=w2 at *
 have c3:=R9.out.cellAt (i:=3) rfl
 go_wp2_with fail
 go_ret2
 exact ⟨rfl,HB9.out⟩
end
end Go.Proofs.YtogchamogbendaaGreat.Bs
namespace Go.Proofs.YtogchamogbendaaGreat.Bs
open Go.RowKit Oct Mv Tl Pk Pl Go.Maps Go.ChangeMaps
open Lf (Nd Fit nodePage RowN ToldN)
open No (atR at_any)
theorem right_low {b:Value} {w:World} (root:Int) (t:WR) (hdn:Calls Tryz.prog 117 #[b,.int .i64 root,.int .u64 0] w (WayOut t w)) (hh:t.high=0) :
  Calls Tryz.prog 52 #[b,.int .i64 root] w fun e w'=>e = .returned (.bool (decide (t.e=0)))∧Below w.heap.size w w':=by
 have HDN:=Lib.hid (height_of root t hdn)
 rw [hh] at HDN
 have HH:=Lib.hid hh
 clear hdn hh
 go_enter Tryz.func52,Tryz.ntmps52
 go_wp2_with fail
 refine HDN.out.mono ?_
 rintro e w1 ⟨rfl,B1⟩
 by_cases he:t.e=0
 ·have heb:((t.e:Nat):Int)=0:=by omega
  rw [heb]
  go_wp2_with fail
  go_ret
  exact ⟨by rw [decide_eq_true he]; rfl,B1⟩
 ·have hei : ¬(((t.e:Nat):Int)=0):=by omega
  have hef:(((t.e:Nat):Int)==0)=false:=by simpa using he
  go_wp2_with fail
  go_ret
  exact ⟨by rw [decide_eq_false he]; rfl,B1⟩
end Go.Proofs.YtogchamogbendaaGreat.Bs
namespace Go.Proofs.YtogchamogbendaaGreat.Bs
open Go.RowKit Oct Mv Tl Pk Pl Go.Maps Go.ChangeMaps
open Lf (Nd Fit nodePage RowN ToldN Rises)
open No (atR at_any low Ok)
def fitsR (l:Bool) (ks:List UInt64) (lv f:Nat) (fr tt:UInt64):Bool :=
 decide (l=decide (lv=1))&&decide (f≤ks.length)&&decide (fr.toNat≤(ks.getD 0 0).toNat)&&decide ((ks.getD (ks.length-1) 0).toNat≤tt.toNat)
abbrev Itm:=UInt64×UInt64
def Tr (nd:Int→NR) (P:Int→Prop):Nat→Nat→Int→List Itm→Prop
 | m,0,z,l=>P z∧nd z=⟨true,l.map Prod.fst,l.map Prod.snd,0⟩∧m≤l.length∧0<l.length
 | m,lv+1,z,l=>P z ∧ ∃(ks vs:List UInt64) (segs:List (List Itm)),nd z=⟨false,ks,vs,0⟩∧segs.length=ks.length∧l=segs.flatten∧m≤ks.length∧0<ks.length ∧
   ∀i,i<ks.length→Tr nd P 3 lv ((vs.getD i 0).toNat:Int) (segs.getD i []) ∧ ∃v r,segs.getD i []=(ks.getD i 0,v) :: r
theorem Tr.mono {nd nd':Int→NR} {P P':Int→Prop} (h : ∀z,P z→nd' z=nd z∧P' z) : ∀ {lv m:Nat} {z:Int} {l:List Itm},Tr nd P m lv z l→Tr nd' P' m lv z l
 | 0,m,z,l,⟨hp,he,hm,h0⟩=>⟨(h z hp).2,by rw [(h z hp).1]; exact he,hm,h0⟩
 | lv+1,m,z,l,⟨hp,ks,vs,segs,he,h1,h2,h3,h4,h5⟩=>⟨(h z hp).2,ks,vs,segs,by rw [(h z hp).1]; exact he,h1,h2,h3,h4,fun i hi=>⟨Tr.mono h (h5 i hi).1,(h5 i hi).2⟩⟩
theorem Tr.less {nd:Int→NR} {P:Int→Prop} {m m':Nat} (hm:m'≤m) : ∀ {lv:Nat} {z:Int} {l:List Itm},Tr nd P m lv z l→Tr nd P m' lv z l
 | 0,z,l,⟨hp,he,h1,h0⟩=>⟨hp,he,Nat.le_trans hm h1,h0⟩
 | lv+1,z,l,⟨hp,ks,vs,segs,he,h1,h2,h3,h4,h5⟩=>⟨hp,ks,vs,segs,he,h1,h2,Nat.le_trans hm h3,h4,h5⟩
theorem flat_split {α:Type} (L:List (List α)) {i:Nat} (hi:i<L.length):L.flatten=(L.take i).flatten++(L.getD i []++(L.drop (i+1)).flatten):=by
 conv=>lhs; rw [← List.take_append_drop i L,List.drop_eq_getElem_cons hi]
 rw [List.flatten_append,List.flatten_cons,List.getD_eq_getElem?_getD,List.getElem?_eq_getElem hi]
 rfl
theorem Tr.pos {nd:Int→NR} {P:Int→Prop} {m:Nat} : ∀ {lv:Nat} {z:Int} {l:List Itm},Tr nd P m lv z l→l ≠ []
 | 0,z,l,⟨_,_,_,h0⟩=>fun e=>by rw [e] at h0; cases h0
 | lv+1,z,l,⟨_,ks,vs,segs,_,h1,h2,_,h4,h5⟩=>fun e=>by
  obtain ⟨v,r,hv⟩:=(h5 0 h4).2
  rw [e,flat_split segs (i:=0) (by omega),hv] at h2
  simp at h2
theorem low_spec : ∀(ks:List UInt64) (k:UInt64),Rises ks → ∀t,t<ks.length→((ks.getD t 0).toNat<k.toNat↔t<low ks k)
 | [],_,_,t,ht=>by cases ht
 | a :: r,k,hr,t,ht=>by
  have h1 : ∀y∈r,a.toNat<y.toNat:=(List.pairwise_cons.1 hr).1
  have h2:Rises r:=(List.pairwise_cons.1 hr).2
  have hlow:low (a :: r) k=low r k+if a.toNat<k.toNat then 1 else 0:=by
   unfold low
   rw [List.countP_cons]
   simp
  by_cases ha:a.toNat<k.toNat
  ·rw [if_pos ha] at hlow
   cases t with
   | zero=>rw [hlow]; exact ⟨fun _=>by omega,fun _=>ha⟩
   | succ t =>
    have:=low_spec r k h2 t (by simpa using ht)
    rw [hlow]
    rw [show (a :: r).getD (t+1) 0=r.getD t 0 from rfl]
    omega
  ·rw [if_neg ha] at hlow
   have h0:low r k=0:=by
    unfold low
    rw [List.countP_eq_zero]
    intro y hy
    have:=h1 y hy
    simp
    omega
   rw [hlow,h0]
   cases t with
   | zero=>exact ⟨fun q=>absurd q ha,fun q=>by omega⟩
   | succ t =>
    rw [show (a :: r).getD (t+1) 0=r.getD t 0 from rfl]
    have hm:r.getD t 0∈r:=by
     have ht':t<r.length:=by simpa using ht
     rw [List.getD_eq_getElem?_getD,List.getElem?_eq_getElem ht']
     exact List.getElem_mem ht'
    have:=h1 _ hm
    exact ⟨fun q=>by omega,fun q=>by omega⟩
theorem getD_mem' {α:Type} {l:List α} {i:Nat} {d:α} (h:i<l.length):l.getD i d∈l:=by
 rw [List.getD_eq_getElem?_getD,List.getElem?_eq_getElem h]
 exact List.getElem_mem h
theorem rises_lt {ks:List UInt64} (h:Rises ks) {i j:Nat} (hij:i<j) (hj:j<ks.length):(ks.getD i 0).toNat<(ks.getD j 0).toNat:=by
 have:=List.pairwise_iff_getElem.1 h i j (by omega) hj hij
 rw [List.getD_eq_getElem?_getD,List.getD_eq_getElem?_getD,List.getElem?_eq_getElem hj,List.getElem?_eq_getElem (by omega)]
 exact this
theorem at_spec {ks vs:List UInt64} (h:Fit false ks vs) (key:UInt64):((atR false ks vs key).1=0∨(ks.getD (atR false ks vs key).1 0).toNat≤key.toNat) ∧ ∀j,(atR false ks vs key).1<j→j<ks.length→key.toNat<(ks.getD j 0).toNat:=by
 have hr:=h.2.2.1
 have h0:0<ks.length:=by rcases h.2.2.2 with q | q; cases q; exact q.1
 have hok:Ok false ks vs:=⟨h.1,h.2.1,h.2.2.1,.inr h0⟩
 have hs:=low_spec ks key hr
 have hle:low ks key≤ks.length:=List.countP_le_length
 unfold atR
 rw [if_pos hok]
 show ((if false=false∧key∉ks then low ks key-1 else low ks key)=0∨_)∧_
 by_cases hk:key∈ks
 ·rw [if_neg (fun q=>q.2 hk)]
  obtain ⟨i,hi,he⟩:=List.mem_iff_getElem.1 hk
  have hg:ks.getD i 0=key:=by rw [List.getD_eq_getElem?_getD,List.getElem?_eq_getElem hi]; exact he
  have e1 : ¬i<low ks key:=fun q=>by have:=(hs i hi).2 q; rw [hg] at this; omega
  have hl:low ks key<ks.length:=by omega
  have e2:low ks key=i:=by
   rcases Nat.lt_or_ge (low ks key) i with q | q
   ·have k1:=rises_lt hr q hi
    rw [hg] at k1
    exact absurd ((hs _ hl).1 k1) (by omega)
   ·omega
  refine ⟨.inr ?_,fun j hj hjl => ?_⟩
  ·show (ks.getD (low ks key) 0).toNat≤key.toNat
   rw [e2,hg]; exact Nat.le_refl _
  ·show key.toNat<(ks.getD j 0).toNat
   have:=rises_lt hr (i:=i) (j:=j) (by show i<j; have:low ks key<j:=hj; omega) hjl
   rw [hg] at this
   exact this
 ·rw [if_pos ⟨rfl,hk⟩]
  refine ⟨?_,fun j hj hjl => ?_⟩
  ·rcases Nat.eq_zero_or_pos (low ks key) with q | q
   ·exact .inl (by omega)
   ·refine .inr ?_
    show (ks.getD (low ks key-1) 0).toNat≤key.toNat
    exact Nat.le_of_lt ((hs (low ks key-1) (by omega)).2 (by omega))
  ·show key.toNat<(ks.getD j 0).toNat
   have hj':low ks key-1<j:=hj
   have k1 : ¬(ks.getD j 0).toNat<key.toNat:=fun q=>by have:=(hs j hjl).1 q; omega
   have k2:(ks.getD j 0).toNat≠key.toNat:=fun q=>by
    have:ks.getD j 0=key:=UInt64.toNat_inj.1 q
    exact hk (this▸getD_mem' hjl)
   omega
def Ris (l:List Itm):Prop:=l.Pairwise (fun a b=>a.1.toNat<b.1.toNat)
def lastOf (post:List Itm) (en:UInt64):UInt64:=match post with | []=>en | p :: _=>p.1-1
theorem toNat_pred {k:UInt64} (h:1≤k.toNat):(k-1).toNat=k.toNat-1:=by
 rw [UInt64.toNat_sub_of_le]
 ·rfl
 ·exact UInt64.le_iff_toNat_le.2 h
theorem Ris.head {a:Itm} {r:List Itm} (h:Ris (a :: r)) {p:Itm} (hp:p∈a :: r):a.1.toNat≤p.1.toNat:=by
 rcases List.mem_cons.1 hp with e | e
 ·rw [e]; exact Nat.le_refl _
 ·exact Nat.le_of_lt ((List.pairwise_cons.1 h).1 p e)
theorem Ris.left {a b:List Itm} (h:Ris (a++b)):Ris a:=(List.pairwise_append.1 h).1
theorem Ris.right {a b:List Itm} (h:Ris (a++b)):Ris b:=(List.pairwise_append.1 h).2.1
theorem Ris.across {a b:List Itm} (h:Ris (a++b)) {p q:Itm} (hp:p∈a) (hq:q∈b):p.1.toNat<q.1.toNat:=(List.pairwise_append.1 h).2.2 p hp q hq
theorem seg_mem {L:List (List Itm)} {j:Nat} (hj:j<L.length) {p:Itm} (hp:p∈L.getD j []):p∈L.flatten:=List.mem_flatten.2 ⟨_,getD_mem' hj,hp⟩
theorem drop_seg {L:List (List Itm)} {i:Nat} {p:Itm} (hp:p∈(L.drop i).flatten) : ∃j,i≤j∧j<L.length∧p∈L.getD j []:=by
 obtain ⟨s,hs,hps⟩:=List.mem_flatten.1 hp
 obtain ⟨j,hj,rfl⟩:=List.mem_iff_getElem.1 hs
 rw [List.length_drop] at hj
 refine ⟨i+j,by omega,by omega,?_⟩
 rw [List.getElem_drop] at hps
 rw [List.getD_eq_getElem?_getD,List.getElem?_eq_getElem (by omega)]
 exact hps
theorem take_seg {L:List (List Itm)} {i:Nat} (hi:i<L.length) (h:Ris L.flatten):Ris (L.getD i []):=by
 rw [flat_split L hi] at h
 exact h.right.left
theorem seg_above {L:List (List Itm)} {i j:Nat} (hij:i<j) (hj:j<L.length) (h:Ris L.flatten) {p q:Itm} (hp:p∈L.getD i []) (hq:q∈L.getD j []):p.1.toNat<q.1.toNat:=by
 rw [flat_split L (i:=i) (by omega)] at h
 refine h.right.across hp ?_
 refine List.mem_flatten.2 ⟨_,?_,hq⟩
 rw [List.getD_eq_getElem?_getD,List.getElem?_eq_getElem hj]
 refine List.mem_iff_getElem.2 ⟨j-(i+1),by rw [List.length_drop]; omega,?_⟩
 rw [List.getElem_drop]
 show L[i+1+(j-(i+1))]=L[j]
 congr 1
 omega
def Leads (l:List Itm) (key en:UInt64) (h:Nat) (t:WR):Prop := ∃pre seg post,l=pre++(seg++post)∧seg ≠ []∧t=⟨true,seg.map Prod.fst,seg.map Prod.snd,h,lastOf post en,0⟩∧(pre = [] ∨ ∃a r,seg=a :: r∧a.1.toNat≤key.toNat) ∧ ∀p∈post,key.toNat<p.1.toNat
theorem tr_down {x:BS} {n:Nat} {P:Int→Prop} (key:UInt64) : ∀(lv m:Nat) (z:Int) (l:List Itm) (f h:Nat) (en:UInt64),Tr (nodeR x n) P m lv z l→Ris l→(∀p∈l,p.1.toNat≤en.toNat)→lv<f→Leads l key en (h+lv+1) (downF x n key f h z en)
 | 0,m,z,l,f+1,h,en,⟨_,he,_,h0⟩,_,_,_=>by
  refine ⟨[],l,[],by simp,(fun e=>by rw [e] at h0; cases h0),?_,.inl rfl,(fun p hp=>by cases hp)⟩
  show (if (nodeR x n z).e≠0 then _ else _)=_
  rw [he]
  rfl
 | lv+1,m,z,l,f+1,h,en,⟨_,ks,vs,segs,he,h1,h2,h3,h4,h5⟩,hr,hen,hf=>by
  have hfit:Fit false ks vs:=by have:=nodeR_fit (x:=x) (n:=n) (i:=z) (by rw [he]); rw [he] at this; exact this
  have hat:=at_spec hfit key
  have hal:=(fit_at hfit key).1
  obtain ⟨i,hi⟩ : ∃i,(atR false ks vs key).1=i:=⟨_,rfl⟩
  rw [hi] at hat hal
  have hsg:i<segs.length:=by omega
  have hvl:i<vs.length:=by rw [hfit.2.1]; exact hal
  have hv:(vs.getD i 0).toNat<4096:=by
   rcases hfit.2.2.2 with q | q
   ·cases q
   ·exact (q.2.1 _ (getD_mem' hvl)).2
  have e:downF x n key (f+1) h z en=downF x n key f (h+1) ((vs.getD i 0).toNat:Int) (lastR ks i en):=by
   show (if (nodeR x n z).e≠0 then _ else _)=_
   rw [he,if_neg (fun q=>q rfl)]
   show (if false=true then _ else _)=_
   rw [if_neg (by decide),hi]
   show downF x n key f (h+1) (IntKind.i64.wrap ((vs.getD i 0).toNat:Int)) (lastR ks i en)=_
   rw [wrap_i64 (by omega) (by omega)]
  rw [h2] at hr hen
  have head : ∀j,j<ks.length → ∀p∈segs.getD j [],(ks.getD j 0).toNat≤p.1.toNat:=fun j hj p hp=>by
   obtain ⟨v,r,hv⟩:=(h5 j hj).2
   have hrj:=take_seg (i:=j) (by omega) hr
   rw [hv] at hrj hp
   exact hrj.head hp
  have heads : ∀j,j<ks.length → ∃p∈segs.getD j [],p.1=ks.getD j 0:=fun j hj=>by
   obtain ⟨v,r,hv⟩:=(h5 j hj).2
   rw [hv]
   exact ⟨_,List.mem_cons_self ..,rfl⟩
  have hlast:lastR ks i en=lastOf (segs.drop (i+1)).flatten en:=by
   unfold lastR
   by_cases q:i+1=ks.length
   ·rw [if_pos q,List.drop_eq_nil_of_le (by omega)]
    rfl
   ·rw [if_neg q]
    obtain ⟨v,r,hv⟩:=(h5 (i+1) (by omega)).2
    obtain ⟨p,hp,hpk⟩:=heads (i+1) (by omega)
    have k1:=hen p (seg_mem (by omega) hp)
    have k2:=rises_lt hfit.2.2.1 (i:=i) (j:=i+1) (by omega) (by omega)
    rw [hpk] at k1
    have e1:lastOf (segs.drop (i+1)).flatten en=ks.getD (i+1) 0-1:=by
     rw [List.drop_eq_getElem_cons (by omega),List.flatten_cons]
     rw [List.getD_eq_getElem?_getD,List.getElem?_eq_getElem (by omega)] at hv
     rw [show segs[i+1]=(ks.getD (i+1) 0,v) :: r from hv]
     rfl
    rw [e1,if_neg]
    rw [toNat_pred (by omega)]
    omega
  obtain ⟨pre,seg,post,g1,g2,g3,g4,g5⟩:=tr_down key lv 3 _ _ f (h+1) (lastR ks i en) (h5 i hal).1 (take_seg hsg hr) (fun p hp=>by
   rw [hlast]
   by_cases q:i+1=ks.length
   ·rw [List.drop_eq_nil_of_le (by omega)]
    exact hen p (seg_mem hsg hp)
   ·obtain ⟨v,r,hv⟩:=(h5 (i+1) (by omega)).2
    obtain ⟨p2,hp2,hpk⟩:=heads (i+1) (by omega)
    have k3:=seg_above (i:=i) (j:=i+1) (by omega) (by omega) hr hp hp2
    rw [List.drop_eq_getElem_cons (by omega),List.flatten_cons]
    rw [List.getD_eq_getElem?_getD,List.getElem?_eq_getElem (by omega)] at hv
    rw [show segs[i+1]=(ks.getD (i+1) 0,v) :: r from hv]
    show p.1.toNat≤(ks.getD (i+1) 0-1).toNat
    rw [hpk] at k3
    rw [toNat_pred (by omega)]
    omega) (by omega)
  rw [e]
  refine ⟨(segs.take i).flatten++pre,seg,post++(segs.drop (i+1)).flatten,?_,g2,?_,?_,?_⟩
  ·rw [h2,flat_split segs hsg,g1]
   simp only [List.append_assoc]
  ·rw [g3,show h+1+lv+1=h+(lv+1)+1 by omega]
   congr 1
   cases post with
   | nil=>rw [List.nil_append,← hlast]; rfl
   | cons a r=>rfl
  ·rcases g4 with q | ⟨a,r,q1,q2⟩
   ·rcases hat.1 with z0 | z0
    ·left
     rw [q,z0]
     rfl
    ·right
     obtain ⟨v,r,hv⟩:=(h5 i hal).2
     rw [q,List.nil_append,hv] at g1
     cases seg with
     | nil=>exact absurd rfl g2
     | cons a s =>
      refine ⟨a,s,rfl,?_⟩
      rw [List.cons_append] at g1
      have:=(List.cons.inj g1).1
      rw [← this]
      exact z0
   ·exact .inr ⟨a,r,q1,q2⟩
  ·intro p hp
   rcases List.mem_append.1 hp with q | q
   ·exact g5 p q
   ·obtain ⟨j,j1,j2,j3⟩:=drop_seg q
    have:=hat.2 j (by omega) (by omega)
    have:=head j (by omega) p j3
    omega
noncomputable def rightF (x:BS) (n:Nat):Nat→Int→Nat→UInt64→UInt64→Bool
 | 0,_,_,_,_=>false
 | lv+1,z,f,fr,tt=>decide ((nodeR x n z).e=0)&&(fitsR (nodeR x n z).l (nodeR x n z).ks (lv+1) f fr tt&&((nodeR x n z).l||(List.range (nodeR x n z).vs.length).all fun i =>
   rightF x n lv (IntKind.i64.wrap (((nodeR x n z).vs.getD i 0).toNat:Int)) 3 ((nodeR x n z).ks.getD i 0) (lastR (nodeR x n z).ks i tt)))
theorem tr_right {x:BS} {n:Nat} {P:Int→Prop} : ∀(lv m:Nat) (z:Int) (l:List Itm) (fr tt:UInt64),Tr (nodeR x n) P m lv z l→Ris l→(∀p∈l,fr.toNat≤p.1.toNat∧p.1.toNat≤tt.toNat)→rightF x n (lv+1) z m fr tt=true
 | 0,m,z,l,fr,tt,⟨_,he,hm,h0⟩,hr,hb=>by
  show (decide _&&(_&&_))=true
  rw [he]
  have hl:(l.map Prod.fst).length=l.length:=List.length_map ..
  have k1 : ∀i,i<l.length→(l.map Prod.fst).getD i 0∈l.map Prod.fst:=fun i hi=>getD_mem' (by rw [hl]; exact hi)
  have k2 : ∀i,i<l.length→fr.toNat≤((l.map Prod.fst).getD i 0).toNat∧((l.map Prod.fst).getD i 0).toNat≤tt.toNat:=fun i hi=>by
   obtain ⟨p,hp,e⟩:=List.mem_map.1 (k1 i hi)
   rw [← e]
   exact hb p hp
  have a1:=(k2 0 h0).1
  have a2:=(k2 (l.length-1) (by omega)).2
  simp only [fitsR,hl,decide_eq_true hm,decide_eq_true a1,decide_eq_true a2]
  rfl
 | lv+1,m,z,l,fr,tt,⟨_,ks,vs,segs,he,h1,h2,h3,h4,h5⟩,hr,hb=>by
  have hfit:Fit false ks vs:=by have:=nodeR_fit (x:=x) (n:=n) (i:=z) (by rw [he]); rw [he] at this; exact this
  show (decide _&&(_&&_))=true
  rw [he]
  rw [h2] at hr hb
  have head : ∀j,j<ks.length → ∀p∈segs.getD j [],(ks.getD j 0).toNat≤p.1.toNat:=fun j hj p hp=>by
   obtain ⟨v,r,hv⟩:=(h5 j hj).2
   have hrj:=take_seg (i:=j) (by omega) hr
   rw [hv] at hrj hp
   exact hrj.head hp
  have heads : ∀j,j<ks.length → ∃p∈segs.getD j [],p.1=ks.getD j 0:=fun j hj=>by
   obtain ⟨v,r,hv⟩:=(h5 j hj).2
   rw [hv]
   exact ⟨_,List.mem_cons_self ..,rfl⟩
  have k2 : ∀j,j<ks.length→fr.toNat≤(ks.getD j 0).toNat∧(ks.getD j 0).toNat≤tt.toNat:=fun j hj=>by
   obtain ⟨p,hp,e⟩:=heads j hj
   rw [← e]
   exact hb p (seg_mem (by omega) hp)
  have a1:=(k2 0 h4).1
  have a2:=(k2 (ks.length-1) (by omega)).2
  have a3:(decide ((false:Bool)=decide (lv+1+1=1)))=true:=by
   rw [show decide (lv+1+1=1)=false from decide_eq_false (by omega)]
   rfl
  have a4:((List.range vs.length).all fun i=>rightF x n (lv+1) (IntKind.i64.wrap ((vs.getD i 0).toNat:Int)) 3 (ks.getD i 0) (lastR ks i tt))=true:=by
   rw [List.all_eq_true]
   intro i hi
   rw [List.mem_range,hfit.2.1] at hi
   have hv:(vs.getD i 0).toNat<4096:=by
    rcases hfit.2.2.2 with q | q
    ·cases q
    ·exact (q.2.1 _ (getD_mem' (by rw [hfit.2.1]; exact hi))).2
   rw [wrap_i64 (by omega) (by omega)]
   refine tr_right lv 3 _ _ _ _ (h5 i hi).1 (take_seg (by omega) hr) (fun p hp=>⟨head i hi p hp,?_⟩)
   unfold lastR
   have k5:=(hb p (seg_mem (by omega) hp)).2
   split
   ·exact k5
   ·rename_i q
    split
    ·exact k5
    ·obtain ⟨p2,hp2,hpk⟩:=heads (i+1) (by omega)
     have k3:=seg_above (i:=i) (j:=i+1) (by omega) (by omega) hr hp hp2
     rw [hpk] at k3
     rw [toNat_pred (by omega)]
     omega
  simp only [fitsR,decide_eq_true h3,decide_eq_true a1,decide_eq_true a2,a3,a4]
  rfl
def ranged (l:List Itm) (fr tt:UInt64):List Itm:=l.filter (fun p=>decide (fr.toNat≤p.1.toNat)&&decide (p.1.toNat≤tt.toNat))
theorem ranged_app (a b:List Itm) (fr tt:UInt64):ranged (a++b) fr tt=ranged a fr tt++ranged b fr tt:=List.filter_append ..
theorem ranged_none {l:List Itm} {fr tt:UInt64} (h : ∀p∈l,p.1.toNat<fr.toNat∨tt.toNat<p.1.toNat):ranged l fr tt = []:=by
 unfold ranged
 rw [List.filter_eq_nil_iff]
 intro p hp
 have:=h p hp
 simp
 omega
theorem ranged_same {l:List Itm} {fr tt fr' tt':UInt64} (h : ∀p∈l,(fr.toNat≤p.1.toNat∧p.1.toNat≤tt.toNat)↔(fr'.toNat≤p.1.toNat∧p.1.toNat≤tt'.toNat)):ranged l fr tt=ranged l fr' tt':=by
 unfold ranged
 apply List.filter_congr
 intro p hp
 have:=h p hp
 rw [Bool.eq_iff_iff]
 simp
 exact this
theorem round_end {pre seg post:List Itm} {fr tt:UInt64} (hr:Ris (pre++(seg++post))) (hp:pre = [] ∨ ∃a r,seg=a :: r∧a.1.toNat≤fr.toNat) (hq : ∀p∈post,fr.toNat<p.1.toNat) (hl:tt.toNat≤(lastOf post maxU).toNat):ranged (pre++(seg++post)) fr tt=ranged seg fr tt:=by
 have h1:ranged pre fr tt = []:=ranged_none fun p hpp=>by
  rcases hp with e | ⟨a,r,e,ha⟩
  ·rw [e] at hpp; cases hpp
  ·left
   have:=hr.across hpp (q:=a) (by rw [e]; simp)
   omega
 have h2:ranged post fr tt = []:=ranged_none fun p hpp=>by
  right
  cases post with
  | nil=>cases hpp
  | cons a r =>
   have k1:=hr.right.right.head hpp
   have k2:=hq a (List.mem_cons_self ..)
   have k3:(lastOf (a :: r) maxU).toNat=a.1.toNat-1:=toNat_pred (by omega)
   omega
 rw [ranged_app,ranged_app,h1,h2,List.nil_append,List.append_nil]
theorem round_on {pre seg post:List Itm} {fr tt:UInt64} (hr:Ris (pre++(seg++post))) (hs:seg ≠ []) (hp:pre = [] ∨ ∃a r,seg=a :: r∧a.1.toNat≤fr.toNat) (hq : ∀p∈post,fr.toNat<p.1.toNat) (hl:(lastOf post maxU).toNat<tt.toNat) :
  ∃nx:UInt64,nx.toNat=(lastOf post maxU).toNat+1∧fr.toNat<nx.toNat∧ranged (pre++(seg++post)) fr tt=ranged seg fr (lastOf post maxU)++ranged (pre++(seg++post)) nx tt:=by
 cases post with
 | nil =>
  have:=tt.toNat_lt
  have e:(lastOf [] maxU).toNat=18446744073709551615:=rfl
  omega
 | cons a r =>
  have k2:=hq a (List.mem_cons_self ..)
  have k3:(lastOf (a :: r) maxU).toNat=a.1.toNat-1:=toNat_pred (by omega)
  refine ⟨a.1,by omega,by omega,?_⟩
  have h1 : ∀f:UInt64,fr.toNat≤f.toNat→ranged pre f tt = []:=fun f hf=>ranged_none fun p hpp=>by
   rcases hp with e | ⟨b,r,e,ha⟩
   ·rw [e] at hpp; cases hpp
   ·left
    have:=hr.across hpp (q:=b) (by rw [e]; simp)
    omega
  have h2:ranged seg a.1 tt = []:=ranged_none fun p hpp => .inl (hr.right.across hpp (List.mem_cons_self ..))
  have h3:ranged seg fr tt=ranged seg fr (lastOf (a :: r) maxU):=ranged_same fun p hpp=>by
   have:=hr.right.across hpp (List.mem_cons_self (a:=a) ..)
   omega
  have h4:ranged (a :: r) fr tt=ranged (a :: r) a.1 tt:=ranged_same fun p hpp=>by
   have:=hr.right.right.head hpp
   omega
  rw [ranged_app,ranged_app,ranged_app,ranged_app,h1 fr (Nat.le_refl _),h1 a.1 (by omega),h2,h3,h4,List.nil_append,List.nil_append,List.nil_append]
end Go.Proofs.YtogchamogbendaaGreat.Bs
namespace Go.Proofs.YtogchamogbendaaGreat.Bs
open Lib (hid)
open Go.RowKit Oct Mv Tl Pk Pl Go.Maps Go.ChangeMaps
open Lf (Nd Fit nodePage RowN ToldN)
def Vl (b:Nat→Bool) (z:Nat→Value) (vl:List Value):Prop:=(∀i,i<32→b i=true → ∀v,vl.getD i undef=v→z (9+i)=v)∧(b 32=true → ∀v,vl.getD 32 undef=v→z 4=v)
theorem Vl.at {b:Nat→Bool} {z:Nat→Value} {vl:List Value} (h:Vl b z vl) (i:Nat) (hb:b i=true) (v:Value) (hv:vl.getD i undef=v) (hi:i<32:=by decide):z (9+i)=v:=h.1 i hi hb v hv
theorem Vl.up0 {b:Nat→Bool} {z:Nat→Value} {vl:List Value} (h:Vl b z vl) (i:Nat) (v:Value) (hv:vl.getD i undef=v) (hi:i<32:=by decide):Vl (Inv.mark b i) (fun s=>if s=9+i then v else z s) vl:=by
 refine ⟨fun j hj e u hu => ?_,fun e u hu => ?_⟩
 ·show (if 9+j=9+i then v else _)=u
  by_cases q:j=i
  ·subst q
   rw [if_pos rfl]
   exact hv.symm.trans hu
  rw [if_neg (by omega)]
  exact h.1 j hj (by unfold Inv.mark at e; rw [beq_eq_false_iff_ne.mpr q,Bool.false_or] at e; exact e) u hu
 ·show (if 4=9+i then v else _)=u
  rw [if_neg (by omega)]
  exact h.2 (by unfold Inv.mark at e; rw [beq_eq_false_iff_ne.mpr (show 32≠i by omega),Bool.false_or] at e; exact e) u hu
theorem Vl.up1 {b:Nat→Bool} {z:Nat→Value} {vl:List Value} (h:Vl b z vl) (i:Nat) (d0:Nat) (v:Value) (hv:vl.getD i undef=v) (x0:Value) (hxd0:vl.getD d0 undef=x0) (hi:i<32:=by decide) (hd0:d0<32:=by decide):Vl (Inv.mark b i) (fun s=>if s=9+i then v else if s=9+d0 then x0 else z s) vl:=by
 refine ⟨fun j hj e u hu => ?_,fun e u hu => ?_⟩
 ·show (if 9+j=9+i then v else _)=u
  by_cases q:j=i
  ·subst q
   rw [if_pos rfl]
   exact hv.symm.trans hu
  rw [if_neg (by omega)]
  by_cases qd0:j=d0
  ·subst qd0
   rw [if_pos rfl]
   exact hxd0.symm.trans hu
  rw [if_neg (by omega)]
  exact h.1 j hj (by unfold Inv.mark at e; rw [beq_eq_false_iff_ne.mpr q,Bool.false_or] at e; exact e) u hu
 ·show (if 4=9+i then v else _)=u
  rw [if_neg (by omega)]
  rw [if_neg (by omega)]
  exact h.2 (by unfold Inv.mark at e; rw [beq_eq_false_iff_ne.mpr (show 32≠i by omega),Bool.false_or] at e; exact e) u hu
theorem Vl.up2 {b:Nat→Bool} {z:Nat→Value} {vl:List Value} (h:Vl b z vl) (i:Nat) (d0:Nat) (d1:Nat) (v:Value) (hv:vl.getD i undef=v) (x0:Value) (hxd0:vl.getD d0 undef=x0) (x1:Value) (hxd1:vl.getD d1 undef=x1) (hi:i<32:=by decide) (hd0:d0<32:=by decide) (hd1:d1<32:=by decide):Vl (Inv.mark b i) (fun s=>if s=9+i then v else if s=9+d0 then x0 else if s=9+d1 then x1 else z s) vl:=by
 refine ⟨fun j hj e u hu => ?_,fun e u hu => ?_⟩
 ·show (if 9+j=9+i then v else _)=u
  by_cases q:j=i
  ·subst q
   rw [if_pos rfl]
   exact hv.symm.trans hu
  rw [if_neg (by omega)]
  by_cases qd0:j=d0
  ·subst qd0
   rw [if_pos rfl]
   exact hxd0.symm.trans hu
  rw [if_neg (by omega)]
  by_cases qd1:j=d1
  ·subst qd1
   rw [if_pos rfl]
   exact hxd1.symm.trans hu
  rw [if_neg (by omega)]
  exact h.1 j hj (by unfold Inv.mark at e; rw [beq_eq_false_iff_ne.mpr q,Bool.false_or] at e; exact e) u hu
 ·show (if 4=9+i then v else _)=u
  rw [if_neg (by omega)]
  rw [if_neg (by omega)]
  rw [if_neg (by omega)]
  exact h.2 (by unfold Inv.mark at e; rw [beq_eq_false_iff_ne.mpr (show 32≠i by omega),Bool.false_or] at e; exact e) u hu
theorem Vl.up3 {b:Nat→Bool} {z:Nat→Value} {vl:List Value} (h:Vl b z vl) (i:Nat) (d0:Nat) (d1:Nat) (d2:Nat) (v:Value) (hv:vl.getD i undef=v) (x0:Value) (hxd0:vl.getD d0 undef=x0) (x1:Value) (hxd1:vl.getD d1 undef=x1) (x2:Value) (hxd2:vl.getD d2 undef=x2) (hi:i<32:=by decide) (hd0:d0<32:=by decide) (hd1:d1<32:=by decide) (hd2:d2<32:=by decide):Vl (Inv.mark b i) (fun s=>if s=9+i then v else if s=9+d0 then x0 else if s=9+d1 then x1 else if s=9+d2 then x2 else z s) vl:=by
 refine ⟨fun j hj e u hu => ?_,fun e u hu => ?_⟩
 ·show (if 9+j=9+i then v else _)=u
  by_cases q:j=i
  ·subst q
   rw [if_pos rfl]
   exact hv.symm.trans hu
  rw [if_neg (by omega)]
  by_cases qd0:j=d0
  ·subst qd0
   rw [if_pos rfl]
   exact hxd0.symm.trans hu
  rw [if_neg (by omega)]
  by_cases qd1:j=d1
  ·subst qd1
   rw [if_pos rfl]
   exact hxd1.symm.trans hu
  rw [if_neg (by omega)]
  by_cases qd2:j=d2
  ·subst qd2
   rw [if_pos rfl]
   exact hxd2.symm.trans hu
  rw [if_neg (by omega)]
  exact h.1 j hj (by unfold Inv.mark at e; rw [beq_eq_false_iff_ne.mpr q,Bool.false_or] at e; exact e) u hu
 ·show (if 4=9+i then v else _)=u
  rw [if_neg (by omega)]
  rw [if_neg (by omega)]
  rw [if_neg (by omega)]
  rw [if_neg (by omega)]
  exact h.2 (by unfold Inv.mark at e; rw [beq_eq_false_iff_ne.mpr (show 32≠i by omega),Bool.false_or] at e; exact e) u hu
theorem Vl.end1 {b:Nat→Bool} {z:Nat→Value} {vl:List Value} (h:Vl b z vl) (d0:Nat) (v:Value) (hv:vl.getD 32 undef=v) (x0:Value) (hxd0:vl.getD d0 undef=x0) (hd0:d0<32:=by decide):Vl (Inv.mark b 32) (fun s=>if s=4 then v else if s=9+d0 then x0 else z s) vl:=by
 refine ⟨fun j hj e u hu => ?_,fun e u hu => ?_⟩
 ·show (if 9+j=4 then v else _)=u
  rw [if_neg (by omega)]
  by_cases qd0:j=d0
  ·subst qd0
   rw [if_pos rfl]
   exact hxd0.symm.trans hu
  rw [if_neg (by omega)]
  exact h.1 j hj (by unfold Inv.mark at e; rw [beq_eq_false_iff_ne.mpr (show j≠32 by omega),Bool.false_or] at e; exact e) u hu
 ·show (if (4:Nat)=4 then v else _)=u
  rw [if_pos rfl]
  exact hv.symm.trans hu
set_option maxHeartbeats 10000000 in
theorem fits_any (l:Bool) {w:World} {K V:Option Addr} {n c m d:Nat} {ks vs:List UInt64} (h:Nd w K n c V m d ks vs) (lv f:Nat) (fr tt:UInt64) (hl:lv≤8) (hf:1≤f∧f≤7) (hn:n≤7) (r:Bool) (hr:r=fitsR l ks lv f fr tt) :
  Calls Tryz.prog 169 #[.agg #[.int .i64 (lv:Int),.int .i64 (f:Int),.int .u64 (fr.toNat:Int),.int .u64 (tt.toNat:Int)],.agg #[.bool l,.slice K n c,.slice V m d]] w fun e w'=>e = .returned (.bool r)∧Below w.heap.size w w':=by
 obtain ⟨X2,hX2⟩ : ∃X,X=w.heap.size:=⟨_,rfl⟩
 obtain ⟨X3,hX3⟩ : ∃X,X=w.heap.size+1:=⟨_,rfl⟩
 have r2:=alloc_rowV w 187 [.int .i64 (lv:Int),.int .i64 (f:Int),.int .u64 (fr.toNat:Int),.int .u64 (tt.toNat:Int)]
 have b2:=(Below.refl w.heap.size w).alloc (Nat.le_refl _) (.cells #[.int .i64 (lv:Int),.int .i64 (f:Int),.int .u64 (fr.toNat:Int),.int .u64 (tt.toNat:Int)] 187)
 have r3:=alloc_rowV (w.alloc (.cells #[.int .i64 (lv:Int),.int .i64 (f:Int),.int .u64 (fr.toNat:Int),.int .u64 (tt.toNat:Int)] 187)) 107 [.bool l,.slice K n c,.slice V m d]
 rw [show (w.alloc (.cells #[.int .i64 (lv:Int),.int .i64 (f:Int),.int .u64 (fr.toNat:Int),.int .u64 (tt.toNat:Int)] 187)).heap.size=X3 by rw [hX3]; exact Array.size_push ..] at r3
 have b3:=(Below.refl (w.alloc (.cells #[.int .i64 (lv:Int),.int .i64 (f:Int),.int .u64 (fr.toNat:Int),.int .u64 (tt.toNat:Int)] 187)).heap.size (w.alloc (.cells #[.int .i64 (lv:Int),.int .i64 (f:Int),.int .u64 (fr.toNat:Int),.int .u64 (tt.toNat:Int)] 187))).alloc (Nat.le_refl _) (.cells #[.bool l,.slice K n c,.slice V m d] 107)
 have R2:=hid (r2.below r2.lt b3)
 have R3:=hid r3
 have HB:=hid (b2.trans (b3.mono b2.size))
 have HND:=hid (h.below (b2.trans (b3.mono b2.size)))
 have HX:=hid (And.intro hX2 hX3)
 have HR:=hid hr
 have HKL:=hid h.kl
 clear r2 b2 r3 b3 h hr
 go_enter Tryz.func169,Tryz.ntmps169
 go_upto_region 2 with (fail)
 rw [← hX3,← hX2]
 rw [← hX2] at R2
 clear hX2 hX3
 simp only [List.toArray] at *
 generalize (w.alloc (.cells #[.int .i64 (lv:Int),.int .i64 (f:Int),.int .u64 (fr.toNat:Int),.int .u64 (tt.toNat:Int)] 187)).alloc (.cells #[.bool l,.slice K n c,.slice V m d] 107)=w2 at *
 obtain ⟨p,hp⟩ : ∃p,((lv:Int)==1)=p:=⟨_,rfl⟩
 have HP:=hid hp
 have HPd:=hid (show p=decide (lv=1) by
  rw [← hp]
  by_cases z:lv=1
  ·subst z; rfl
  ·rw [decide_eq_false z]; exact beq_eq_false_iff_ne.mpr (by omega))
 clear hp
 by_cases q1:l=p
 ·have D1:=hid (show (l==p)=true from beq_iff_eq.mpr q1)
  have q1':l=decide (lv=1):=q1.trans HPd.out
  by_cases q2:f≤n
  ·have D2:=hid (show (f:Int)≤(n:Int) by omega)
   have H0:=hid (show 0<n by omega)
   have H0i:=hid (show (0:Int)<(n:Int) by omega)
   obtain ⟨bK,oK,rfl,hH⟩ : ∃b o,K=some ⟨b,o,none⟩∧Lf.HasN w2 b o ks:=by
    rcases HND.out.ks with q | q
    ·have:=HKL.out; rw [q] at this; simp at this; omega
    ·exact q
   have HH:=hid hH
   obtain ⟨y,hy⟩ : ∃y,ks.getD 0 0=y:=⟨_,rfl⟩
   obtain ⟨u,hu⟩ : ∃u,ks.getD (n-1) 0=u:=⟨_,rfl⟩
   have HY:=hid (show ks[0]'(by rw [HKL.out]; exact H0.out)=y by rw [← hy,List.getD_eq_getElem?_getD,List.getElem?_eq_getElem (by rw [HKL.out]; exact H0.out)]; rfl)
   have HU:=hid (show ks[n-1]'(by rw [HKL.out]; have:=H0.out; omega)=u by rw [← hu,List.getD_eq_getElem?_getD,List.getElem?_eq_getElem (by rw [HKL.out]; have:=H0.out; omega)]; rfl)
   have HR2:=hid (show r=(decide (fr.toNat≤y.toNat)&&decide (u.toNat≤tt.toNat)) by rw [HR.out]; unfold fitsR; rw [HKL.out,decide_eq_true q1',decide_eq_true q2,hy,hu]; rfl)
   have G2:=hid (show ((n-1:Nat):Int)<(n:Int)∧(0:Int)≤((n-1:Nat):Int) by omega)
   have G1:=hid (show IntKind.i64.wrap ((n:Int)-1)=((n-1:Nat):Int) by rw [show (n:Int)-1=((n-1:Nat):Int) by omega]; exact wrap_i64 (by omega) (by omega))
   clear hH hy hu HR q1 q1' q2
   by_cases q3:fr.toNat≤y.toNat
   ·have D3:=hid (show (fr.toNat:Int)≤(y.toNat:Int) by omega)
    obtain ⟨q4,hq4⟩ : ∃q,decide (u.toNat≤tt.toNat)=q:=⟨_,rfl⟩
    have D4:=hid (show decide ((u.toNat:Int)≤(tt.toNat:Int))=q4∧decide (u.toNat≤tt.toNat)=q4 from ⟨by rw [← hq4]; exact decide_eq_decide.2 (by omega),hq4⟩)
    have HZ:=hid (show r=q4 by rw [HR2.out,decide_eq_true q3,hq4]; rfl)
    clear q3 hq4 HR2 HND
    refine Inv2.wp_region_inv (fun b a wy => ∃z:Nat→Value,a=⟨#[Value.agg #[Value.int IntKind.i64 ↑lv,Value.int IntKind.i64 ↑f,Value.int IntKind.u64 ↑fr.toNat,Value.int IntKind.u64 ↑tt.toNat],Value.agg #[Value.bool l,Value.slice (some ⟨bK,oK,none⟩) n c,Value.slice V m d],Value.pointer (some ⟨X2,0,none⟩),Value.pointer (some ⟨X3,0,none⟩),z 4,Value.int IntKind.i64 ↑n,Value.pointer (some ⟨X3,1,none⟩),Value.slice (some ⟨bK,oK,none⟩) n c,Value.int IntKind.i64 ↑n,z 9,z 10,z 11,z 12,z 13,z 14,z 15,z 16,z 17,z 18,z 19,z 20,z 21,z 22,z 23,z 24,z 25,z 26,z 27,z 28,z 29,z 30,z 31,z 32,z 33,z 34,z 35,z 36,z 37,z 38,z 39,z 40],[]⟩∧Hid (Vl b z [.pointer (some ⟨X3,0,none⟩),.bool l,.pointer (some ⟨X2,0,none⟩),.int .i64 (lv:Int),.bool p,.bool true,.bool true,Value.int IntKind.i64 ↑n,.pointer (some ⟨X2,1,none⟩),.int .i64 (f:Int),.bool true,.bool true,.bool true,.pointer (some ⟨X3,1,none⟩),.slice (some ⟨bK,oK,none⟩) n c,.pointer (some ⟨bK,oK,none⟩),.int .u64 (y.toNat:Int),.pointer (some ⟨X2,2,none⟩),.int .u64 (fr.toNat:Int),.bool true,.bool true,.bool true,.pointer (some ⟨X3,1,none⟩),.slice (some ⟨bK,oK,none⟩) n c,Value.int IntKind.i64 ↑n,.int .i64 ((n-1:Nat):Int),.pointer (some ⟨bK,oK+(n-1),none⟩),.int .u64 (u.toNat:Int),.pointer (some ⟨X2,3,none⟩),.int .u64 (tt.toNat:Int),.bool q4,.bool q4,.bool q4])∧Hid (Below w2.heap.size w2 wy)) (by kernel_rfl) (by kernel_rfl) ?startE ?stepsE ?doneE
    case startE =>
     intro b hb
     refine ⟨fun s=>if s=4 then Value.bool false else undef,rfl,hid ⟨fun i hi e=>(by rw [hb i (by show i<33; omega)] at e; cases e),fun e=>(by rw [hb 32 (by decide)] at e; cases e)⟩,hid ((show Still w2 w2.drew from ⟨rfl,rfl,rfl,rfl⟩).below _)⟩
    case stepsE =>
     refine ⟨?_,?_,?_,?_,?_,?_,?_,?_,?_,?_,?_,?_,?_,?_,?_,?_,?_,?_,?_,?_,?_,?_,?_,?_,?_,?_,?_,?_,?_,?_,?_,?_,?_,trivial⟩
     ·rintro b a wy hb hd ⟨z,rfl,HV,HW⟩ K hK
      clear hd
      go_simp
      exact hK _ _ ⟨fun s=>if s=9 then .pointer (some ⟨X3,0,none⟩) else z s,rfl,hid (HV.out.up0 0 _ rfl),HW⟩
     ·rintro b a wy hb hd ⟨z,rfl,HV,HW⟩ K hK
      simp [Region.binds] at hd
      have e0:z 9 = .pointer (some ⟨X3,0,none⟩):=HV.out.at 0 (by simp [hd]) _ rfl
      clear hd
      have hrw:=R3.out.below R3.out.lt HW.out
      have q:=hrw.cellAt (i:=0) rfl
      clear hrw
      go_simp
      exact hK _ _ ⟨fun s=>if s=10 then .bool l else if s=9 then .pointer (some ⟨X3,0,none⟩) else z s,rfl,hid (HV.out.up1 1 0 _ rfl _ rfl),HW⟩
     ·rintro b a wy hb hd ⟨z,rfl,HV,HW⟩ K hK
      clear hd
      go_simp
      exact hK _ _ ⟨fun s=>if s=11 then .pointer (some ⟨X2,0,none⟩) else z s,rfl,hid (HV.out.up0 2 _ rfl),HW⟩
     ·rintro b a wy hb hd ⟨z,rfl,HV,HW⟩ K hK
      simp [Region.binds] at hd
      have e2:z 11 = .pointer (some ⟨X2,0,none⟩):=HV.out.at 2 (by simp [hd]) _ rfl
      clear hd
      have hrw:=R2.out.below R2.out.lt HW.out
      have q:=hrw.cellAt (i:=0) rfl
      clear hrw
      go_simp
      exact hK _ _ ⟨fun s=>if s=12 then .int .i64 (lv:Int) else if s=11 then .pointer (some ⟨X2,0,none⟩) else z s,rfl,hid (HV.out.up1 3 2 _ rfl _ rfl),HW⟩
     ·rintro b a wy hb hd ⟨z,rfl,HV,HW⟩ K hK
      simp [Region.binds] at hd
      have e3:z 12 = .int .i64 (lv:Int):=HV.out.at 3 (by simp [hd]) _ rfl
      clear hd
      have hp:=HP.out
      go_simp
      exact hK _ _ ⟨fun s=>if s=13 then .bool p else if s=12 then .int .i64 (lv:Int) else z s,rfl,hid (HV.out.up1 4 3 _ rfl _ rfl),HW⟩
     ·rintro b a wy hb hd ⟨z,rfl,HV,HW⟩ K hK
      simp [Region.binds] at hd
      have e1:z 10 = .bool l:=HV.out.at 1 (by simp [hd]) _ rfl
      have e4:z 13 = .bool p:=HV.out.at 4 (by simp [hd]) _ rfl
      clear hd
      have d1:=D1.out
      go_simp
      exact hK _ _ ⟨fun s=>if s=14 then .bool true else if s=10 then .bool l else if s=13 then .bool p else z s,rfl,hid (HV.out.up2 5 1 4 _ rfl _ rfl _ rfl),HW⟩
     ·rintro b a wy hb hd ⟨z,rfl,HV,HW⟩ K hK
      simp [Region.binds] at hd
      have e5:z 14 = .bool true:=HV.out.at 5 (by simp [hd]) _ rfl
      clear hd
      go_simp
      exact hK _ _ ⟨fun s=>if s=15 then .bool true else if s=14 then .bool true else z s,rfl,hid (HV.out.up1 6 5 _ rfl _ rfl),HW⟩
     ·rintro b a wy hb hd ⟨z,rfl,HV,HW⟩ K hK
      simp [Region.binds] at hd
      have e6:z 15 = .bool true:=HV.out.at 6 (by simp [hd]) _ rfl
      clear hd
      go_simp
      exact hK _ _ ⟨fun s=>if s=16 then Value.int IntKind.i64 ↑n else if s=15 then .bool true else z s,rfl,hid (HV.out.up1 7 6 _ rfl _ rfl),HW⟩
     ·rintro b a wy hb hd ⟨z,rfl,HV,HW⟩ K hK
      simp [Region.binds] at hd
      have e6:z 15 = .bool true:=HV.out.at 6 (by simp [hd]) _ rfl
      clear hd
      go_simp
      exact hK _ _ ⟨fun s=>if s=17 then .pointer (some ⟨X2,1,none⟩) else if s=15 then .bool true else z s,rfl,hid (HV.out.up1 8 6 _ rfl _ rfl),HW⟩
     ·rintro b a wy hb hd ⟨z,rfl,HV,HW⟩ K hK
      simp [Region.binds] at hd
      have e6:z 15 = .bool true:=HV.out.at 6 (by simp [hd]) _ rfl
      have e8:z 17 = .pointer (some ⟨X2,1,none⟩):=HV.out.at 8 (by simp [hd]) _ rfl
      clear hd
      have hrw:=R2.out.below R2.out.lt HW.out
      have q:=hrw.cellAt (i:=1) rfl
      clear hrw
      go_simp
      exact hK _ _ ⟨fun s=>if s=18 then .int .i64 (f:Int) else if s=15 then .bool true else if s=17 then .pointer (some ⟨X2,1,none⟩) else z s,rfl,hid (HV.out.up2 9 6 8 _ rfl _ rfl _ rfl),HW⟩
     ·rintro b a wy hb hd ⟨z,rfl,HV,HW⟩ K hK
      simp [Region.binds] at hd
      have e6:z 15 = .bool true:=HV.out.at 6 (by simp [hd]) _ rfl
      have e7:z 16=Value.int IntKind.i64 ↑n:=HV.out.at 7 (by simp [hd]) _ rfl
      have e9:z 18 = .int .i64 (f:Int):=HV.out.at 9 (by simp [hd]) _ rfl
      clear hd
      have d2:=D2.out
      go_simp
      exact hK _ _ ⟨fun s=>if s=19 then .bool true else if s=15 then .bool true else if s=16 then Value.int IntKind.i64 ↑n else if s=18 then .int .i64 (f:Int) else z s,rfl,hid (HV.out.up3 10 6 7 9 _ rfl _ rfl _ rfl _ rfl),HW⟩
     ·rintro b a wy hb hd ⟨z,rfl,HV,HW⟩ K hK
      simp [Region.binds] at hd
      have e6:z 15 = .bool true:=HV.out.at 6 (by simp [hd]) _ rfl
      have e10:z 19 = .bool true:=HV.out.at 10 (by simp [hd]) _ rfl
      clear hd
      go_simp
      exact hK _ _ ⟨fun s=>if s=20 then .bool true else if s=15 then .bool true else if s=19 then .bool true else z s,rfl,hid (HV.out.up2 11 6 10 _ rfl _ rfl _ rfl),HW⟩
     ·rintro b a wy hb hd ⟨z,rfl,HV,HW⟩ K hK
      simp [Region.binds] at hd
      have e11:z 20 = .bool true:=HV.out.at 11 (by simp [hd]) _ rfl
      clear hd
      go_simp
      exact hK _ _ ⟨fun s=>if s=21 then .bool true else if s=20 then .bool true else z s,rfl,hid (HV.out.up1 12 11 _ rfl _ rfl),HW⟩
     ·rintro b a wy hb hd ⟨z,rfl,HV,HW⟩ K hK
      simp [Region.binds] at hd
      have e12:z 21 = .bool true:=HV.out.at 12 (by simp [hd]) _ rfl
      clear hd
      go_simp
      exact hK _ _ ⟨fun s=>if s=22 then .pointer (some ⟨X3,1,none⟩) else if s=21 then .bool true else z s,rfl,hid (HV.out.up1 13 12 _ rfl _ rfl),HW⟩
     ·rintro b a wy hb hd ⟨z,rfl,HV,HW⟩ K hK
      simp [Region.binds] at hd
      have e12:z 21 = .bool true:=HV.out.at 12 (by simp [hd]) _ rfl
      have e13:z 22 = .pointer (some ⟨X3,1,none⟩):=HV.out.at 13 (by simp [hd]) _ rfl
      clear hd
      have hrw:=R3.out.below R3.out.lt HW.out
      have q:=hrw.cellAt (i:=1) rfl
      clear hrw
      go_simp
      exact hK _ _ ⟨fun s=>if s=23 then .slice (some ⟨bK,oK,none⟩) n c else if s=21 then .bool true else if s=22 then .pointer (some ⟨X3,1,none⟩) else z s,rfl,hid (HV.out.up2 14 12 13 _ rfl _ rfl _ rfl),HW⟩
     ·rintro b a wy hb hd ⟨z,rfl,HV,HW⟩ K hK
      simp [Region.binds] at hd
      have e12:z 21 = .bool true:=HV.out.at 12 (by simp [hd]) _ rfl
      have e14:z 23 = .slice (some ⟨bK,oK,none⟩) n c:=HV.out.at 14 (by simp [hd]) _ rfl
      clear hd
      have h0:=H0i.out
      have h0n:=H0.out
      go_simp
      exact hK _ _ ⟨fun s=>if s=24 then .pointer (some ⟨bK,oK,none⟩) else if s=21 then .bool true else if s=23 then .slice (some ⟨bK,oK,none⟩) n c else z s,rfl,hid (HV.out.up2 15 12 14 _ rfl _ rfl _ rfl),HW⟩
     ·rintro b a wy hb hd ⟨z,rfl,HV,HW⟩ K hK
      simp [Region.binds] at hd
      have e12:z 21 = .bool true:=HV.out.at 12 (by simp [hd]) _ rfl
      have e15:z 24 = .pointer (some ⟨bK,oK,none⟩):=HV.out.at 15 (by simp [hd]) _ rfl
      clear hd
      have hcell:=(HH.out.below (HH.out.lt (by rw [HKL.out]; exact H0.out)) HW.out) (0) (by rw [HKL.out]; have:=H0.out; omega)
      rw [HY.out] at hcell
      simp only [Nat.add_zero] at hcell
      go_simp
      exact hK _ _ ⟨fun s=>if s=25 then .int .u64 (y.toNat:Int) else if s=21 then .bool true else if s=24 then .pointer (some ⟨bK,oK,none⟩) else z s,rfl,hid (HV.out.up2 16 12 15 _ rfl _ rfl _ rfl),HW⟩
     ·rintro b a wy hb hd ⟨z,rfl,HV,HW⟩ K hK
      simp [Region.binds] at hd
      have e12:z 21 = .bool true:=HV.out.at 12 (by simp [hd]) _ rfl
      clear hd
      go_simp
      exact hK _ _ ⟨fun s=>if s=26 then .pointer (some ⟨X2,2,none⟩) else if s=21 then .bool true else z s,rfl,hid (HV.out.up1 17 12 _ rfl _ rfl),HW⟩
     ·rintro b a wy hb hd ⟨z,rfl,HV,HW⟩ K hK
      simp [Region.binds] at hd
      have e12:z 21 = .bool true:=HV.out.at 12 (by simp [hd]) _ rfl
      have e17:z 26 = .pointer (some ⟨X2,2,none⟩):=HV.out.at 17 (by simp [hd]) _ rfl
      clear hd
      have hrw:=R2.out.below R2.out.lt HW.out
      have q:=hrw.cellAt (i:=2) rfl
      clear hrw
      go_simp
      exact hK _ _ ⟨fun s=>if s=27 then .int .u64 (fr.toNat:Int) else if s=21 then .bool true else if s=26 then .pointer (some ⟨X2,2,none⟩) else z s,rfl,hid (HV.out.up2 18 12 17 _ rfl _ rfl _ rfl),HW⟩
     ·rintro b a wy hb hd ⟨z,rfl,HV,HW⟩ K hK
      simp [Region.binds] at hd
      have e12:z 21 = .bool true:=HV.out.at 12 (by simp [hd]) _ rfl
      have e16:z 25 = .int .u64 (y.toNat:Int):=HV.out.at 16 (by simp [hd]) _ rfl
      have e18:z 27 = .int .u64 (fr.toNat:Int):=HV.out.at 18 (by simp [hd]) _ rfl
      clear hd
      have d3:=D3.out
      go_simp
      exact hK _ _ ⟨fun s=>if s=28 then .bool true else if s=21 then .bool true else if s=25 then .int .u64 (y.toNat:Int) else if s=27 then .int .u64 (fr.toNat:Int) else z s,rfl,hid (HV.out.up3 19 12 16 18 _ rfl _ rfl _ rfl _ rfl),HW⟩
     ·rintro b a wy hb hd ⟨z,rfl,HV,HW⟩ K hK
      simp [Region.binds] at hd
      have e12:z 21 = .bool true:=HV.out.at 12 (by simp [hd]) _ rfl
      have e19:z 28 = .bool true:=HV.out.at 19 (by simp [hd]) _ rfl
      clear hd
      go_simp
      exact hK _ _ ⟨fun s=>if s=29 then .bool true else if s=21 then .bool true else if s=28 then .bool true else z s,rfl,hid (HV.out.up2 20 12 19 _ rfl _ rfl _ rfl),HW⟩
     ·rintro b a wy hb hd ⟨z,rfl,HV,HW⟩ K hK
      simp [Region.binds] at hd
      have e20:z 29 = .bool true:=HV.out.at 20 (by simp [hd]) _ rfl
      clear hd
      go_simp
      exact hK _ _ ⟨fun s=>if s=30 then .bool true else if s=29 then .bool true else z s,rfl,hid (HV.out.up1 21 20 _ rfl _ rfl),HW⟩
     ·rintro b a wy hb hd ⟨z,rfl,HV,HW⟩ K hK
      simp [Region.binds] at hd
      have e21:z 30 = .bool true:=HV.out.at 21 (by simp [hd]) _ rfl
      clear hd
      go_simp
      exact hK _ _ ⟨fun s=>if s=31 then .pointer (some ⟨X3,1,none⟩) else if s=30 then .bool true else z s,rfl,hid (HV.out.up1 22 21 _ rfl _ rfl),HW⟩
     ·rintro b a wy hb hd ⟨z,rfl,HV,HW⟩ K hK
      simp [Region.binds] at hd
      have e21:z 30 = .bool true:=HV.out.at 21 (by simp [hd]) _ rfl
      have e22:z 31 = .pointer (some ⟨X3,1,none⟩):=HV.out.at 22 (by simp [hd]) _ rfl
      clear hd
      have hrw:=R3.out.below R3.out.lt HW.out
      have q:=hrw.cellAt (i:=1) rfl
      clear hrw
      go_simp
      exact hK _ _ ⟨fun s=>if s=32 then .slice (some ⟨bK,oK,none⟩) n c else if s=30 then .bool true else if s=31 then .pointer (some ⟨X3,1,none⟩) else z s,rfl,hid (HV.out.up2 23 21 22 _ rfl _ rfl _ rfl),HW⟩
     ·rintro b a wy hb hd ⟨z,rfl,HV,HW⟩ K hK
      simp [Region.binds] at hd
      have e21:z 30 = .bool true:=HV.out.at 21 (by simp [hd]) _ rfl
      clear hd
      go_simp
      exact hK _ _ ⟨fun s=>if s=33 then Value.int IntKind.i64 ↑n else if s=30 then .bool true else z s,rfl,hid (HV.out.up1 24 21 _ rfl _ rfl),HW⟩
     ·rintro b a wy hb hd ⟨z,rfl,HV,HW⟩ K hK
      simp [Region.binds] at hd
      have e21:z 30 = .bool true:=HV.out.at 21 (by simp [hd]) _ rfl
      have e24:z 33=Value.int IntKind.i64 ↑n:=HV.out.at 24 (by simp [hd]) _ rfl
      clear hd
      have g1:=G1.out
      go_simp
      exact hK _ _ ⟨fun s=>if s=34 then .int .i64 ((n-1:Nat):Int) else if s=30 then .bool true else if s=33 then Value.int IntKind.i64 ↑n else z s,rfl,hid (HV.out.up2 25 21 24 _ rfl _ rfl _ rfl),HW⟩
     ·rintro b a wy hb hd ⟨z,rfl,HV,HW⟩ K hK
      simp [Region.binds] at hd
      have e21:z 30 = .bool true:=HV.out.at 21 (by simp [hd]) _ rfl
      have e23:z 32 = .slice (some ⟨bK,oK,none⟩) n c:=HV.out.at 23 (by simp [hd]) _ rfl
      have e25:z 34 = .int .i64 ((n-1:Nat):Int):=HV.out.at 25 (by simp [hd]) _ rfl
      clear hd
      have g2:=G2.out.1
      have g3:=G2.out.2
      go_simp
      exact hK _ _ ⟨fun s=>if s=35 then .pointer (some ⟨bK,oK+(n-1),none⟩) else if s=30 then .bool true else if s=32 then .slice (some ⟨bK,oK,none⟩) n c else if s=34 then .int .i64 ((n-1:Nat):Int) else z s,rfl,hid (HV.out.up3 26 21 23 25 _ rfl _ rfl _ rfl _ rfl),HW⟩
     ·rintro b a wy hb hd ⟨z,rfl,HV,HW⟩ K hK
      simp [Region.binds] at hd
      have e21:z 30 = .bool true:=HV.out.at 21 (by simp [hd]) _ rfl
      have e26:z 35 = .pointer (some ⟨bK,oK+(n-1),none⟩):=HV.out.at 26 (by simp [hd]) _ rfl
      clear hd
      have hcell:=(HH.out.below (HH.out.lt (by rw [HKL.out]; exact H0.out)) HW.out) (n-1) (by rw [HKL.out]; have:=H0.out; omega)
      rw [HU.out] at hcell
      go_simp
      exact hK _ _ ⟨fun s=>if s=36 then .int .u64 (u.toNat:Int) else if s=30 then .bool true else if s=35 then .pointer (some ⟨bK,oK+(n-1),none⟩) else z s,rfl,hid (HV.out.up2 27 21 26 _ rfl _ rfl _ rfl),HW⟩
     ·rintro b a wy hb hd ⟨z,rfl,HV,HW⟩ K hK
      simp [Region.binds] at hd
      have e21:z 30 = .bool true:=HV.out.at 21 (by simp [hd]) _ rfl
      clear hd
      go_simp
      exact hK _ _ ⟨fun s=>if s=37 then .pointer (some ⟨X2,3,none⟩) else if s=30 then .bool true else z s,rfl,hid (HV.out.up1 28 21 _ rfl _ rfl),HW⟩
     ·rintro b a wy hb hd ⟨z,rfl,HV,HW⟩ K hK
      simp [Region.binds] at hd
      have e21:z 30 = .bool true:=HV.out.at 21 (by simp [hd]) _ rfl
      have e28:z 37 = .pointer (some ⟨X2,3,none⟩):=HV.out.at 28 (by simp [hd]) _ rfl
      clear hd
      have hrw:=R2.out.below R2.out.lt HW.out
      have q:=hrw.cellAt (i:=3) rfl
      clear hrw
      go_simp
      exact hK _ _ ⟨fun s=>if s=38 then .int .u64 (tt.toNat:Int) else if s=30 then .bool true else if s=37 then .pointer (some ⟨X2,3,none⟩) else z s,rfl,hid (HV.out.up2 29 21 28 _ rfl _ rfl _ rfl),HW⟩
     ·rintro b a wy hb hd ⟨z,rfl,HV,HW⟩ K hK
      simp [Region.binds] at hd
      have e21:z 30 = .bool true:=HV.out.at 21 (by simp [hd]) _ rfl
      have e27:z 36 = .int .u64 (u.toNat:Int):=HV.out.at 27 (by simp [hd]) _ rfl
      have e29:z 38 = .int .u64 (tt.toNat:Int):=HV.out.at 29 (by simp [hd]) _ rfl
      clear hd
      have d4:=D4.out.1
      have d4n:=D4.out.2
      go_simp
      exact hK _ _ ⟨fun s=>if s=39 then .bool q4 else if s=30 then .bool true else if s=36 then .int .u64 (u.toNat:Int) else if s=38 then .int .u64 (tt.toNat:Int) else z s,rfl,hid (HV.out.up3 30 21 27 29 _ rfl _ rfl _ rfl _ rfl),HW⟩
     ·rintro b a wy hb hd ⟨z,rfl,HV,HW⟩ K hK
      simp [Region.binds] at hd
      have e21:z 30 = .bool true:=HV.out.at 21 (by simp [hd]) _ rfl
      have e30:z 39 = .bool q4:=HV.out.at 30 (by simp [hd]) _ rfl
      clear hd
      go_simp
      exact hK _ _ ⟨fun s=>if s=40 then .bool q4 else if s=30 then .bool true else if s=39 then .bool q4 else z s,rfl,hid (HV.out.up2 31 21 30 _ rfl _ rfl _ rfl),HW⟩
     ·rintro b a wy hb hd ⟨z,rfl,HV,HW⟩ K hK
      simp [Region.binds] at hd
      have e31:z 40 = .bool q4:=HV.out.at 31 (by simp [hd]) _ rfl
      clear hd
      go_simp
      exact hK _ _ ⟨fun s=>if s=4 then .bool q4 else if s=40 then .bool q4 else z s,rfl,hid (HV.out.end1 31 _ rfl _ rfl),HW⟩
    case doneE =>
     rintro b a wy hb ⟨z,rfl,HV,HW⟩
     have e4:z 4 = .bool q4:=HV.out.2 (hb 32) _ rfl
     rw [e4]
     clear HV hb e4
     go_wp2_with fail
     go_ret
     exact ⟨by rw [HZ.out]; rfl,HB.out.trans (HW.out.mono HB.out.size)⟩
   ·have D3:=hid (show decide ((fr.toNat:Int)≤(y.toNat:Int))=false∧decide (fr.toNat≤y.toNat)=false from ⟨decide_eq_false (by omega),decide_eq_false q3⟩)
    have HZ:=hid (show r=false by rw [HR2.out,decide_eq_false q3]; rfl)
    clear q3 HR2 HND
    refine Inv2.wp_region_inv (fun b a wy => ∃z:Nat→Value,a=⟨#[Value.agg #[Value.int IntKind.i64 ↑lv,Value.int IntKind.i64 ↑f,Value.int IntKind.u64 ↑fr.toNat,Value.int IntKind.u64 ↑tt.toNat],Value.agg #[Value.bool l,Value.slice (some ⟨bK,oK,none⟩) n c,Value.slice V m d],Value.pointer (some ⟨X2,0,none⟩),Value.pointer (some ⟨X3,0,none⟩),z 4,Value.int IntKind.i64 ↑n,Value.pointer (some ⟨X3,1,none⟩),Value.slice (some ⟨bK,oK,none⟩) n c,Value.int IntKind.i64 ↑n,z 9,z 10,z 11,z 12,z 13,z 14,z 15,z 16,z 17,z 18,z 19,z 20,z 21,z 22,z 23,z 24,z 25,z 26,z 27,z 28,z 29,z 30,z 31,z 32,z 33,z 34,z 35,z 36,z 37,z 38,z 39,z 40],[]⟩∧Hid (Vl b z [.pointer (some ⟨X3,0,none⟩),.bool l,.pointer (some ⟨X2,0,none⟩),.int .i64 (lv:Int),.bool p,.bool true,.bool true,Value.int IntKind.i64 ↑n,.pointer (some ⟨X2,1,none⟩),.int .i64 (f:Int),.bool true,.bool true,.bool true,.pointer (some ⟨X3,1,none⟩),.slice (some ⟨bK,oK,none⟩) n c,.pointer (some ⟨bK,oK,none⟩),.int .u64 (y.toNat:Int),.pointer (some ⟨X2,2,none⟩),.int .u64 (fr.toNat:Int),.bool false,.bool false,.bool false,undef,undef,undef,undef,undef,undef,undef,undef,undef,Value.bool false,Value.bool false])∧Hid (Below w2.heap.size w2 wy)) (by kernel_rfl) (by kernel_rfl) ?startC ?stepsC ?doneC
    case startC =>
     intro b hb
     refine ⟨fun s=>if s=4 then Value.bool false else undef,rfl,hid ⟨fun i hi e=>(by rw [hb i (by show i<33; omega)] at e; cases e),fun e=>(by rw [hb 32 (by decide)] at e; cases e)⟩,hid ((show Still w2 w2.drew from ⟨rfl,rfl,rfl,rfl⟩).below _)⟩
    case stepsC =>
     refine ⟨?_,?_,?_,?_,?_,?_,?_,?_,?_,?_,?_,?_,?_,?_,?_,?_,?_,?_,?_,?_,?_,?_,?_,?_,?_,?_,?_,?_,?_,?_,?_,?_,?_,trivial⟩
     ·rintro b a wy hb hd ⟨z,rfl,HV,HW⟩ K hK
      clear hd
      go_simp
      exact hK _ _ ⟨fun s=>if s=9 then .pointer (some ⟨X3,0,none⟩) else z s,rfl,hid (HV.out.up0 0 _ rfl),HW⟩
     ·rintro b a wy hb hd ⟨z,rfl,HV,HW⟩ K hK
      simp [Region.binds] at hd
      have e0:z 9 = .pointer (some ⟨X3,0,none⟩):=HV.out.at 0 (by simp [hd]) _ rfl
      clear hd
      have hrw:=R3.out.below R3.out.lt HW.out
      have q:=hrw.cellAt (i:=0) rfl
      clear hrw
      go_simp
      exact hK _ _ ⟨fun s=>if s=10 then .bool l else if s=9 then .pointer (some ⟨X3,0,none⟩) else z s,rfl,hid (HV.out.up1 1 0 _ rfl _ rfl),HW⟩
     ·rintro b a wy hb hd ⟨z,rfl,HV,HW⟩ K hK
      clear hd
      go_simp
      exact hK _ _ ⟨fun s=>if s=11 then .pointer (some ⟨X2,0,none⟩) else z s,rfl,hid (HV.out.up0 2 _ rfl),HW⟩
     ·rintro b a wy hb hd ⟨z,rfl,HV,HW⟩ K hK
      simp [Region.binds] at hd
      have e2:z 11 = .pointer (some ⟨X2,0,none⟩):=HV.out.at 2 (by simp [hd]) _ rfl
      clear hd
      have hrw:=R2.out.below R2.out.lt HW.out
      have q:=hrw.cellAt (i:=0) rfl
      clear hrw
      go_simp
      exact hK _ _ ⟨fun s=>if s=12 then .int .i64 (lv:Int) else if s=11 then .pointer (some ⟨X2,0,none⟩) else z s,rfl,hid (HV.out.up1 3 2 _ rfl _ rfl),HW⟩
     ·rintro b a wy hb hd ⟨z,rfl,HV,HW⟩ K hK
      simp [Region.binds] at hd
      have e3:z 12 = .int .i64 (lv:Int):=HV.out.at 3 (by simp [hd]) _ rfl
      clear hd
      have hp:=HP.out
      go_simp
      exact hK _ _ ⟨fun s=>if s=13 then .bool p else if s=12 then .int .i64 (lv:Int) else z s,rfl,hid (HV.out.up1 4 3 _ rfl _ rfl),HW⟩
     ·rintro b a wy hb hd ⟨z,rfl,HV,HW⟩ K hK
      simp [Region.binds] at hd
      have e1:z 10 = .bool l:=HV.out.at 1 (by simp [hd]) _ rfl
      have e4:z 13 = .bool p:=HV.out.at 4 (by simp [hd]) _ rfl
      clear hd
      have d1:=D1.out
      go_simp
      exact hK _ _ ⟨fun s=>if s=14 then .bool true else if s=10 then .bool l else if s=13 then .bool p else z s,rfl,hid (HV.out.up2 5 1 4 _ rfl _ rfl _ rfl),HW⟩
     ·rintro b a wy hb hd ⟨z,rfl,HV,HW⟩ K hK
      simp [Region.binds] at hd
      have e5:z 14 = .bool true:=HV.out.at 5 (by simp [hd]) _ rfl
      clear hd
      go_simp
      exact hK _ _ ⟨fun s=>if s=15 then .bool true else if s=14 then .bool true else z s,rfl,hid (HV.out.up1 6 5 _ rfl _ rfl),HW⟩
     ·rintro b a wy hb hd ⟨z,rfl,HV,HW⟩ K hK
      simp [Region.binds] at hd
      have e6:z 15 = .bool true:=HV.out.at 6 (by simp [hd]) _ rfl
      clear hd
      go_simp
      exact hK _ _ ⟨fun s=>if s=16 then Value.int IntKind.i64 ↑n else if s=15 then .bool true else z s,rfl,hid (HV.out.up1 7 6 _ rfl _ rfl),HW⟩
     ·rintro b a wy hb hd ⟨z,rfl,HV,HW⟩ K hK
      simp [Region.binds] at hd
      have e6:z 15 = .bool true:=HV.out.at 6 (by simp [hd]) _ rfl
      clear hd
      go_simp
      exact hK _ _ ⟨fun s=>if s=17 then .pointer (some ⟨X2,1,none⟩) else if s=15 then .bool true else z s,rfl,hid (HV.out.up1 8 6 _ rfl _ rfl),HW⟩
     ·rintro b a wy hb hd ⟨z,rfl,HV,HW⟩ K hK
      simp [Region.binds] at hd
      have e6:z 15 = .bool true:=HV.out.at 6 (by simp [hd]) _ rfl
      have e8:z 17 = .pointer (some ⟨X2,1,none⟩):=HV.out.at 8 (by simp [hd]) _ rfl
      clear hd
      have hrw:=R2.out.below R2.out.lt HW.out
      have q:=hrw.cellAt (i:=1) rfl
      clear hrw
      go_simp
      exact hK _ _ ⟨fun s=>if s=18 then .int .i64 (f:Int) else if s=15 then .bool true else if s=17 then .pointer (some ⟨X2,1,none⟩) else z s,rfl,hid (HV.out.up2 9 6 8 _ rfl _ rfl _ rfl),HW⟩
     ·rintro b a wy hb hd ⟨z,rfl,HV,HW⟩ K hK
      simp [Region.binds] at hd
      have e6:z 15 = .bool true:=HV.out.at 6 (by simp [hd]) _ rfl
      have e7:z 16=Value.int IntKind.i64 ↑n:=HV.out.at 7 (by simp [hd]) _ rfl
      have e9:z 18 = .int .i64 (f:Int):=HV.out.at 9 (by simp [hd]) _ rfl
      clear hd
      have d2:=D2.out
      go_simp
      exact hK _ _ ⟨fun s=>if s=19 then .bool true else if s=15 then .bool true else if s=16 then Value.int IntKind.i64 ↑n else if s=18 then .int .i64 (f:Int) else z s,rfl,hid (HV.out.up3 10 6 7 9 _ rfl _ rfl _ rfl _ rfl),HW⟩
     ·rintro b a wy hb hd ⟨z,rfl,HV,HW⟩ K hK
      simp [Region.binds] at hd
      have e6:z 15 = .bool true:=HV.out.at 6 (by simp [hd]) _ rfl
      have e10:z 19 = .bool true:=HV.out.at 10 (by simp [hd]) _ rfl
      clear hd
      go_simp
      exact hK _ _ ⟨fun s=>if s=20 then .bool true else if s=15 then .bool true else if s=19 then .bool true else z s,rfl,hid (HV.out.up2 11 6 10 _ rfl _ rfl _ rfl),HW⟩
     ·rintro b a wy hb hd ⟨z,rfl,HV,HW⟩ K hK
      simp [Region.binds] at hd
      have e11:z 20 = .bool true:=HV.out.at 11 (by simp [hd]) _ rfl
      clear hd
      go_simp
      exact hK _ _ ⟨fun s=>if s=21 then .bool true else if s=20 then .bool true else z s,rfl,hid (HV.out.up1 12 11 _ rfl _ rfl),HW⟩
     ·rintro b a wy hb hd ⟨z,rfl,HV,HW⟩ K hK
      simp [Region.binds] at hd
      have e12:z 21 = .bool true:=HV.out.at 12 (by simp [hd]) _ rfl
      clear hd
      go_simp
      exact hK _ _ ⟨fun s=>if s=22 then .pointer (some ⟨X3,1,none⟩) else if s=21 then .bool true else z s,rfl,hid (HV.out.up1 13 12 _ rfl _ rfl),HW⟩
     ·rintro b a wy hb hd ⟨z,rfl,HV,HW⟩ K hK
      simp [Region.binds] at hd
      have e12:z 21 = .bool true:=HV.out.at 12 (by simp [hd]) _ rfl
      have e13:z 22 = .pointer (some ⟨X3,1,none⟩):=HV.out.at 13 (by simp [hd]) _ rfl
      clear hd
      have hrw:=R3.out.below R3.out.lt HW.out
      have q:=hrw.cellAt (i:=1) rfl
      clear hrw
      go_simp
      exact hK _ _ ⟨fun s=>if s=23 then .slice (some ⟨bK,oK,none⟩) n c else if s=21 then .bool true else if s=22 then .pointer (some ⟨X3,1,none⟩) else z s,rfl,hid (HV.out.up2 14 12 13 _ rfl _ rfl _ rfl),HW⟩
     ·rintro b a wy hb hd ⟨z,rfl,HV,HW⟩ K hK
      simp [Region.binds] at hd
      have e12:z 21 = .bool true:=HV.out.at 12 (by simp [hd]) _ rfl
      have e14:z 23 = .slice (some ⟨bK,oK,none⟩) n c:=HV.out.at 14 (by simp [hd]) _ rfl
      clear hd
      have h0:=H0i.out
      have h0n:=H0.out
      go_simp
      exact hK _ _ ⟨fun s=>if s=24 then .pointer (some ⟨bK,oK,none⟩) else if s=21 then .bool true else if s=23 then .slice (some ⟨bK,oK,none⟩) n c else z s,rfl,hid (HV.out.up2 15 12 14 _ rfl _ rfl _ rfl),HW⟩
     ·rintro b a wy hb hd ⟨z,rfl,HV,HW⟩ K hK
      simp [Region.binds] at hd
      have e12:z 21 = .bool true:=HV.out.at 12 (by simp [hd]) _ rfl
      have e15:z 24 = .pointer (some ⟨bK,oK,none⟩):=HV.out.at 15 (by simp [hd]) _ rfl
      clear hd
      have hcell:=(HH.out.below (HH.out.lt (by rw [HKL.out]; exact H0.out)) HW.out) (0) (by rw [HKL.out]; have:=H0.out; omega)
      rw [HY.out] at hcell
      simp only [Nat.add_zero] at hcell
      go_simp
      exact hK _ _ ⟨fun s=>if s=25 then .int .u64 (y.toNat:Int) else if s=21 then .bool true else if s=24 then .pointer (some ⟨bK,oK,none⟩) else z s,rfl,hid (HV.out.up2 16 12 15 _ rfl _ rfl _ rfl),HW⟩
     ·rintro b a wy hb hd ⟨z,rfl,HV,HW⟩ K hK
      simp [Region.binds] at hd
      have e12:z 21 = .bool true:=HV.out.at 12 (by simp [hd]) _ rfl
      clear hd
      go_simp
      exact hK _ _ ⟨fun s=>if s=26 then .pointer (some ⟨X2,2,none⟩) else if s=21 then .bool true else z s,rfl,hid (HV.out.up1 17 12 _ rfl _ rfl),HW⟩
     ·rintro b a wy hb hd ⟨z,rfl,HV,HW⟩ K hK
      simp [Region.binds] at hd
      have e12:z 21 = .bool true:=HV.out.at 12 (by simp [hd]) _ rfl
      have e17:z 26 = .pointer (some ⟨X2,2,none⟩):=HV.out.at 17 (by simp [hd]) _ rfl
      clear hd
      have hrw:=R2.out.below R2.out.lt HW.out
      have q:=hrw.cellAt (i:=2) rfl
      clear hrw
      go_simp
      exact hK _ _ ⟨fun s=>if s=27 then .int .u64 (fr.toNat:Int) else if s=21 then .bool true else if s=26 then .pointer (some ⟨X2,2,none⟩) else z s,rfl,hid (HV.out.up2 18 12 17 _ rfl _ rfl _ rfl),HW⟩
     ·rintro b a wy hb hd ⟨z,rfl,HV,HW⟩ K hK
      simp [Region.binds] at hd
      have e12:z 21 = .bool true:=HV.out.at 12 (by simp [hd]) _ rfl
      have e16:z 25 = .int .u64 (y.toNat:Int):=HV.out.at 16 (by simp [hd]) _ rfl
      have e18:z 27 = .int .u64 (fr.toNat:Int):=HV.out.at 18 (by simp [hd]) _ rfl
      clear hd
      have d3:=D3.out.1
      have d3n:=D3.out.2
      go_simp
      exact hK _ _ ⟨fun s=>if s=28 then .bool false else if s=21 then .bool true else if s=25 then .int .u64 (y.toNat:Int) else if s=27 then .int .u64 (fr.toNat:Int) else z s,rfl,hid (HV.out.up3 19 12 16 18 _ rfl _ rfl _ rfl _ rfl),HW⟩
     ·rintro b a wy hb hd ⟨z,rfl,HV,HW⟩ K hK
      simp [Region.binds] at hd
      have e12:z 21 = .bool true:=HV.out.at 12 (by simp [hd]) _ rfl
      have e19:z 28 = .bool false:=HV.out.at 19 (by simp [hd]) _ rfl
      clear hd
      go_simp
      exact hK _ _ ⟨fun s=>if s=29 then .bool false else if s=21 then .bool true else if s=28 then .bool false else z s,rfl,hid (HV.out.up2 20 12 19 _ rfl _ rfl _ rfl),HW⟩
     ·rintro b a wy hb hd ⟨z,rfl,HV,HW⟩ K hK
      simp [Region.binds] at hd
      have e20:z 29 = .bool false:=HV.out.at 20 (by simp [hd]) _ rfl
      clear hd
      go_simp
      exact hK _ _ ⟨fun s=>if s=30 then .bool false else if s=29 then .bool false else z s,rfl,hid (HV.out.up1 21 20 _ rfl _ rfl),HW⟩
     iterate 9
      rintro b a wy hb hd ⟨z,rfl,HV,HW⟩ K hK
      simp [Region.binds] at hd
      have e:=HV.out.at 21 (by simp [hd])
      replace e:z 30 = .bool false:=e _ rfl
      clear hd
      go_simp
      refine hK _ _ ⟨_,?_,hid (HV.out.up1 _ 21 _ rfl _ rfl),HW⟩
      rfl
     ·rintro b a wy hb hd ⟨z,rfl,HV,HW⟩ K hK
      simp [Region.binds] at hd
      have e21:z 30 = .bool false:=HV.out.at 21 (by simp [hd]) _ rfl
      have e30:z 39=undef:=HV.out.at 30 (by simp [hd]) _ rfl
      clear hd
      go_simp
      exact hK _ _ ⟨fun s=>if s=40 then Value.bool false else if s=30 then .bool false else if s=39 then undef else z s,rfl,hid (HV.out.up2 31 21 30 _ rfl _ rfl _ rfl),HW⟩
     ·rintro b a wy hb hd ⟨z,rfl,HV,HW⟩ K hK
      simp [Region.binds] at hd
      have e31:z 40=Value.bool false:=HV.out.at 31 (by simp [hd]) _ rfl
      clear hd
      go_simp
      exact hK _ _ ⟨fun s=>if s=4 then Value.bool false else if s=40 then Value.bool false else z s,rfl,hid (HV.out.end1 31 _ rfl _ rfl),HW⟩
    case doneC =>
     rintro b a wy hb ⟨z,rfl,HV,HW⟩
     have e4:z 4=Value.bool false:=HV.out.2 (hb 32) _ rfl
     rw [e4]
     clear HV hb e4
     go_wp2_with fail
     go_ret
     exact ⟨by rw [HZ.out]; rfl,HB.out.trans (HW.out.mono HB.out.size)⟩
  ·have D2:=hid (show decide ((f:Int)≤(n:Int))=false∧decide (f≤n)=false from ⟨decide_eq_false (by omega),decide_eq_false q2⟩)
   have HZ:=hid (show r=false by rw [HR.out]; unfold fitsR; rw [HKL.out,decide_eq_false q2]; simp)
   clear q1 q1' q2 HR HND
   refine Inv2.wp_region_inv (fun b a wy => ∃z:Nat→Value,a=⟨#[Value.agg #[Value.int IntKind.i64 ↑lv,Value.int IntKind.i64 ↑f,Value.int IntKind.u64 ↑fr.toNat,Value.int IntKind.u64 ↑tt.toNat],Value.agg #[Value.bool l,Value.slice K n c,Value.slice V m d],Value.pointer (some ⟨X2,0,none⟩),Value.pointer (some ⟨X3,0,none⟩),z 4,Value.int IntKind.i64 ↑n,Value.pointer (some ⟨X3,1,none⟩),Value.slice K n c,Value.int IntKind.i64 ↑n,z 9,z 10,z 11,z 12,z 13,z 14,z 15,z 16,z 17,z 18,z 19,z 20,z 21,z 22,z 23,z 24,z 25,z 26,z 27,z 28,z 29,z 30,z 31,z 32,z 33,z 34,z 35,z 36,z 37,z 38,z 39,z 40],[]⟩∧Hid (Vl b z [.pointer (some ⟨X3,0,none⟩),.bool l,.pointer (some ⟨X2,0,none⟩),.int .i64 (lv:Int),.bool p,.bool true,.bool true,Value.int IntKind.i64 ↑n,.pointer (some ⟨X2,1,none⟩),.int .i64 (f:Int),.bool false,.bool false,.bool false,undef,undef,undef,undef,undef,undef,undef,Value.bool false,Value.bool false,undef,undef,undef,undef,undef,undef,undef,undef,undef,Value.bool false,Value.bool false])∧Hid (Below w2.heap.size w2 wy)) (by kernel_rfl) (by kernel_rfl) ?startB ?stepsB ?doneB
   case startB =>
    intro b hb
    refine ⟨fun s=>if s=4 then Value.bool false else undef,rfl,hid ⟨fun i hi e=>(by rw [hb i (by show i<33; omega)] at e; cases e),fun e=>(by rw [hb 32 (by decide)] at e; cases e)⟩,hid ((show Still w2 w2.drew from ⟨rfl,rfl,rfl,rfl⟩).below _)⟩
   case stepsB =>
    refine ⟨?_,?_,?_,?_,?_,?_,?_,?_,?_,?_,?_,?_,?_,?_,?_,?_,?_,?_,?_,?_,?_,?_,?_,?_,?_,?_,?_,?_,?_,?_,?_,?_,?_,trivial⟩
    ·rintro b a wy hb hd ⟨z,rfl,HV,HW⟩ K hK
     clear hd
     go_simp
     exact hK _ _ ⟨fun s=>if s=9 then .pointer (some ⟨X3,0,none⟩) else z s,rfl,hid (HV.out.up0 0 _ rfl),HW⟩
    ·rintro b a wy hb hd ⟨z,rfl,HV,HW⟩ K hK
     simp [Region.binds] at hd
     have e0:z 9 = .pointer (some ⟨X3,0,none⟩):=HV.out.at 0 (by simp [hd]) _ rfl
     clear hd
     have hrw:=R3.out.below R3.out.lt HW.out
     have q:=hrw.cellAt (i:=0) rfl
     clear hrw
     go_simp
     exact hK _ _ ⟨fun s=>if s=10 then .bool l else if s=9 then .pointer (some ⟨X3,0,none⟩) else z s,rfl,hid (HV.out.up1 1 0 _ rfl _ rfl),HW⟩
    ·rintro b a wy hb hd ⟨z,rfl,HV,HW⟩ K hK
     clear hd
     go_simp
     exact hK _ _ ⟨fun s=>if s=11 then .pointer (some ⟨X2,0,none⟩) else z s,rfl,hid (HV.out.up0 2 _ rfl),HW⟩
    ·rintro b a wy hb hd ⟨z,rfl,HV,HW⟩ K hK
     simp [Region.binds] at hd
     have e2:z 11 = .pointer (some ⟨X2,0,none⟩):=HV.out.at 2 (by simp [hd]) _ rfl
     clear hd
     have hrw:=R2.out.below R2.out.lt HW.out
     have q:=hrw.cellAt (i:=0) rfl
     clear hrw
     go_simp
     exact hK _ _ ⟨fun s=>if s=12 then .int .i64 (lv:Int) else if s=11 then .pointer (some ⟨X2,0,none⟩) else z s,rfl,hid (HV.out.up1 3 2 _ rfl _ rfl),HW⟩
    ·rintro b a wy hb hd ⟨z,rfl,HV,HW⟩ K hK
     simp [Region.binds] at hd
     have e3:z 12 = .int .i64 (lv:Int):=HV.out.at 3 (by simp [hd]) _ rfl
     clear hd
     have hp:=HP.out
     go_simp
     exact hK _ _ ⟨fun s=>if s=13 then .bool p else if s=12 then .int .i64 (lv:Int) else z s,rfl,hid (HV.out.up1 4 3 _ rfl _ rfl),HW⟩
    ·rintro b a wy hb hd ⟨z,rfl,HV,HW⟩ K hK
     simp [Region.binds] at hd
     have e1:z 10 = .bool l:=HV.out.at 1 (by simp [hd]) _ rfl
     have e4:z 13 = .bool p:=HV.out.at 4 (by simp [hd]) _ rfl
     clear hd
     have d1:=D1.out
     go_simp
     exact hK _ _ ⟨fun s=>if s=14 then .bool true else if s=10 then .bool l else if s=13 then .bool p else z s,rfl,hid (HV.out.up2 5 1 4 _ rfl _ rfl _ rfl),HW⟩
    ·rintro b a wy hb hd ⟨z,rfl,HV,HW⟩ K hK
     simp [Region.binds] at hd
     have e5:z 14 = .bool true:=HV.out.at 5 (by simp [hd]) _ rfl
     clear hd
     go_simp
     exact hK _ _ ⟨fun s=>if s=15 then .bool true else if s=14 then .bool true else z s,rfl,hid (HV.out.up1 6 5 _ rfl _ rfl),HW⟩
    ·rintro b a wy hb hd ⟨z,rfl,HV,HW⟩ K hK
     simp [Region.binds] at hd
     have e6:z 15 = .bool true:=HV.out.at 6 (by simp [hd]) _ rfl
     clear hd
     go_simp
     exact hK _ _ ⟨fun s=>if s=16 then Value.int IntKind.i64 ↑n else if s=15 then .bool true else z s,rfl,hid (HV.out.up1 7 6 _ rfl _ rfl),HW⟩
    ·rintro b a wy hb hd ⟨z,rfl,HV,HW⟩ K hK
     simp [Region.binds] at hd
     have e6:z 15 = .bool true:=HV.out.at 6 (by simp [hd]) _ rfl
     clear hd
     go_simp
     exact hK _ _ ⟨fun s=>if s=17 then .pointer (some ⟨X2,1,none⟩) else if s=15 then .bool true else z s,rfl,hid (HV.out.up1 8 6 _ rfl _ rfl),HW⟩
    ·rintro b a wy hb hd ⟨z,rfl,HV,HW⟩ K hK
     simp [Region.binds] at hd
     have e6:z 15 = .bool true:=HV.out.at 6 (by simp [hd]) _ rfl
     have e8:z 17 = .pointer (some ⟨X2,1,none⟩):=HV.out.at 8 (by simp [hd]) _ rfl
     clear hd
     have hrw:=R2.out.below R2.out.lt HW.out
     have q:=hrw.cellAt (i:=1) rfl
     clear hrw
     go_simp
     exact hK _ _ ⟨fun s=>if s=18 then .int .i64 (f:Int) else if s=15 then .bool true else if s=17 then .pointer (some ⟨X2,1,none⟩) else z s,rfl,hid (HV.out.up2 9 6 8 _ rfl _ rfl _ rfl),HW⟩
    ·rintro b a wy hb hd ⟨z,rfl,HV,HW⟩ K hK
     simp [Region.binds] at hd
     have e6:z 15 = .bool true:=HV.out.at 6 (by simp [hd]) _ rfl
     have e7:z 16=Value.int IntKind.i64 ↑n:=HV.out.at 7 (by simp [hd]) _ rfl
     have e9:z 18 = .int .i64 (f:Int):=HV.out.at 9 (by simp [hd]) _ rfl
     clear hd
     have d2:=D2.out.1
     have d2n:=D2.out.2
     go_simp
     exact hK _ _ ⟨fun s=>if s=19 then .bool false else if s=15 then .bool true else if s=16 then Value.int IntKind.i64 ↑n else if s=18 then .int .i64 (f:Int) else z s,rfl,hid (HV.out.up3 10 6 7 9 _ rfl _ rfl _ rfl _ rfl),HW⟩
    ·rintro b a wy hb hd ⟨z,rfl,HV,HW⟩ K hK
     simp [Region.binds] at hd
     have e6:z 15 = .bool true:=HV.out.at 6 (by simp [hd]) _ rfl
     have e10:z 19 = .bool false:=HV.out.at 10 (by simp [hd]) _ rfl
     clear hd
     go_simp
     exact hK _ _ ⟨fun s=>if s=20 then .bool false else if s=15 then .bool true else if s=19 then .bool false else z s,rfl,hid (HV.out.up2 11 6 10 _ rfl _ rfl _ rfl),HW⟩
    ·rintro b a wy hb hd ⟨z,rfl,HV,HW⟩ K hK
     simp [Region.binds] at hd
     have e11:z 20 = .bool false:=HV.out.at 11 (by simp [hd]) _ rfl
     clear hd
     go_simp
     exact hK _ _ ⟨fun s=>if s=21 then .bool false else if s=20 then .bool false else z s,rfl,hid (HV.out.up1 12 11 _ rfl _ rfl),HW⟩
    iterate 7
     rintro b a wy hb hd ⟨z,rfl,HV,HW⟩ K hK
     simp [Region.binds] at hd
     have e:=HV.out.at 12 (by simp [hd])
     replace e:z 21 = .bool false:=e _ rfl
     clear hd
     go_simp
     refine hK _ _ ⟨_,?_,hid (HV.out.up1 _ 12 _ rfl _ rfl),HW⟩
     rfl
    ·rintro b a wy hb hd ⟨z,rfl,HV,HW⟩ K hK
     simp [Region.binds] at hd
     have e12:z 21 = .bool false:=HV.out.at 12 (by simp [hd]) _ rfl
     have e19:z 28=undef:=HV.out.at 19 (by simp [hd]) _ rfl
     clear hd
     go_simp
     exact hK _ _ ⟨fun s=>if s=29 then Value.bool false else if s=21 then .bool false else if s=28 then undef else z s,rfl,hid (HV.out.up2 20 12 19 _ rfl _ rfl _ rfl),HW⟩
    ·rintro b a wy hb hd ⟨z,rfl,HV,HW⟩ K hK
     simp [Region.binds] at hd
     have e20:z 29=Value.bool false:=HV.out.at 20 (by simp [hd]) _ rfl
     clear hd
     go_simp
     exact hK _ _ ⟨fun s=>if s=30 then Value.bool false else if s=29 then Value.bool false else z s,rfl,hid (HV.out.up1 21 20 _ rfl _ rfl),HW⟩
    iterate 9
     rintro b a wy hb hd ⟨z,rfl,HV,HW⟩ K hK
     simp [Region.binds] at hd
     have e:=HV.out.at 21 (by simp [hd])
     replace e:z 30=Value.bool false:=e _ rfl
     clear hd
     go_simp
     refine hK _ _ ⟨_,?_,hid (HV.out.up1 _ 21 _ rfl _ rfl),HW⟩
     rfl
    ·rintro b a wy hb hd ⟨z,rfl,HV,HW⟩ K hK
     simp [Region.binds] at hd
     have e21:z 30=Value.bool false:=HV.out.at 21 (by simp [hd]) _ rfl
     have e30:z 39=undef:=HV.out.at 30 (by simp [hd]) _ rfl
     clear hd
     go_simp
     exact hK _ _ ⟨fun s=>if s=40 then Value.bool false else if s=30 then Value.bool false else if s=39 then undef else z s,rfl,hid (HV.out.up2 31 21 30 _ rfl _ rfl _ rfl),HW⟩
    ·rintro b a wy hb hd ⟨z,rfl,HV,HW⟩ K hK
     simp [Region.binds] at hd
     have e31:z 40=Value.bool false:=HV.out.at 31 (by simp [hd]) _ rfl
     clear hd
     go_simp
     exact hK _ _ ⟨fun s=>if s=4 then Value.bool false else if s=40 then Value.bool false else z s,rfl,hid (HV.out.end1 31 _ rfl _ rfl),HW⟩
   case doneB =>
    rintro b a wy hb ⟨z,rfl,HV,HW⟩
    have e4:z 4=Value.bool false:=HV.out.2 (hb 32) _ rfl
    rw [e4]
    clear HV hb e4
    go_wp2_with fail
    go_ret
    exact ⟨by rw [HZ.out]; rfl,HB.out.trans (HW.out.mono HB.out.size)⟩
 ·have HZ:=hid (show r=false by rw [HR.out]; unfold fitsR; rw [decide_eq_false (fun z=>q1 (z.trans HPd.out.symm))]; simp)
  have D1:=hid (show (l==p)=false from beq_eq_false_iff_ne.mpr q1)
  clear q1 HR HND
  refine Inv2.wp_region_inv (fun b a wy => ∃z:Nat→Value,a=⟨#[Value.agg #[Value.int IntKind.i64 ↑lv,Value.int IntKind.i64 ↑f,Value.int IntKind.u64 ↑fr.toNat,Value.int IntKind.u64 ↑tt.toNat],Value.agg #[Value.bool l,Value.slice K n c,Value.slice V m d],Value.pointer (some ⟨X2,0,none⟩),Value.pointer (some ⟨X3,0,none⟩),z 4,Value.int IntKind.i64 ↑n,Value.pointer (some ⟨X3,1,none⟩),Value.slice K n c,Value.int IntKind.i64 ↑n,z 9,z 10,z 11,z 12,z 13,z 14,z 15,z 16,z 17,z 18,z 19,z 20,z 21,z 22,z 23,z 24,z 25,z 26,z 27,z 28,z 29,z 30,z 31,z 32,z 33,z 34,z 35,z 36,z 37,z 38,z 39,z 40],[]⟩∧Hid (Vl b z [.pointer (some ⟨X3,0,none⟩),.bool l,.pointer (some ⟨X2,0,none⟩),.int .i64 (lv:Int),.bool p,.bool false,.bool false,undef,undef,undef,undef,Value.bool false,Value.bool false,undef,undef,undef,undef,undef,undef,undef,Value.bool false,Value.bool false,undef,undef,undef,undef,undef,undef,undef,undef,undef,Value.bool false,Value.bool false])∧Hid (Below w2.heap.size w2 wy)) (by kernel_rfl) (by kernel_rfl) ?startA ?stepsA ?doneA
  case startA =>
   intro b hb
   refine ⟨fun s=>if s=4 then Value.bool false else undef,rfl,hid ⟨fun i hi e=>(by rw [hb i (by show i<33; omega)] at e; cases e),fun e=>(by rw [hb 32 (by decide)] at e; cases e)⟩,hid ((show Still w2 w2.drew from ⟨rfl,rfl,rfl,rfl⟩).below _)⟩
  case stepsA =>
   refine ⟨?_,?_,?_,?_,?_,?_,?_,?_,?_,?_,?_,?_,?_,?_,?_,?_,?_,?_,?_,?_,?_,?_,?_,?_,?_,?_,?_,?_,?_,?_,?_,?_,?_,trivial⟩
   ·rintro b a wy hb hd ⟨z,rfl,HV,HW⟩ K hK
    clear hd
    go_simp
    exact hK _ _ ⟨fun s=>if s=9 then .pointer (some ⟨X3,0,none⟩) else z s,rfl,hid (HV.out.up0 0 _ rfl),HW⟩
   ·rintro b a wy hb hd ⟨z,rfl,HV,HW⟩ K hK
    simp [Region.binds] at hd
    have e0:z 9 = .pointer (some ⟨X3,0,none⟩):=HV.out.at 0 (by simp [hd]) _ rfl
    clear hd
    have hrw:=R3.out.below R3.out.lt HW.out
    have q:=hrw.cellAt (i:=0) rfl
    clear hrw
    go_simp
    exact hK _ _ ⟨fun s=>if s=10 then .bool l else if s=9 then .pointer (some ⟨X3,0,none⟩) else z s,rfl,hid (HV.out.up1 1 0 _ rfl _ rfl),HW⟩
   ·rintro b a wy hb hd ⟨z,rfl,HV,HW⟩ K hK
    clear hd
    go_simp
    exact hK _ _ ⟨fun s=>if s=11 then .pointer (some ⟨X2,0,none⟩) else z s,rfl,hid (HV.out.up0 2 _ rfl),HW⟩
   ·rintro b a wy hb hd ⟨z,rfl,HV,HW⟩ K hK
    simp [Region.binds] at hd
    have e2:z 11 = .pointer (some ⟨X2,0,none⟩):=HV.out.at 2 (by simp [hd]) _ rfl
    clear hd
    have hrw:=R2.out.below R2.out.lt HW.out
    have q:=hrw.cellAt (i:=0) rfl
    clear hrw
    go_simp
    exact hK _ _ ⟨fun s=>if s=12 then .int .i64 (lv:Int) else if s=11 then .pointer (some ⟨X2,0,none⟩) else z s,rfl,hid (HV.out.up1 3 2 _ rfl _ rfl),HW⟩
   ·rintro b a wy hb hd ⟨z,rfl,HV,HW⟩ K hK
    simp [Region.binds] at hd
    have e3:z 12 = .int .i64 (lv:Int):=HV.out.at 3 (by simp [hd]) _ rfl
    clear hd
    have hp:=HP.out
    go_simp
    exact hK _ _ ⟨fun s=>if s=13 then .bool p else if s=12 then .int .i64 (lv:Int) else z s,rfl,hid (HV.out.up1 4 3 _ rfl _ rfl),HW⟩
   ·rintro b a wy hb hd ⟨z,rfl,HV,HW⟩ K hK
    simp [Region.binds] at hd
    have e1:z 10 = .bool l:=HV.out.at 1 (by simp [hd]) _ rfl
    have e4:z 13 = .bool p:=HV.out.at 4 (by simp [hd]) _ rfl
    clear hd
    have d1:=D1.out
    go_simp
    exact hK _ _ ⟨fun s=>if s=14 then .bool false else if s=10 then .bool l else if s=13 then .bool p else z s,rfl,hid (HV.out.up2 5 1 4 _ rfl _ rfl _ rfl),HW⟩
   ·rintro b a wy hb hd ⟨z,rfl,HV,HW⟩ K hK
    simp [Region.binds] at hd
    have e5:z 14 = .bool false:=HV.out.at 5 (by simp [hd]) _ rfl
    clear hd
    go_simp
    exact hK _ _ ⟨fun s=>if s=15 then .bool false else if s=14 then .bool false else z s,rfl,hid (HV.out.up1 6 5 _ rfl _ rfl),HW⟩
   iterate 4
    rintro b a wy hb hd ⟨z,rfl,HV,HW⟩ K hK
    simp [Region.binds] at hd
    have e:=HV.out.at 6 (by simp [hd])
    replace e:z 15 = .bool false:=e _ rfl
    clear hd
    go_simp
    refine hK _ _ ⟨_,?_,hid (HV.out.up1 _ 6 _ rfl _ rfl),HW⟩
    rfl
   ·rintro b a wy hb hd ⟨z,rfl,HV,HW⟩ K hK
    simp [Region.binds] at hd
    have e6:z 15 = .bool false:=HV.out.at 6 (by simp [hd]) _ rfl
    have e10:z 19=undef:=HV.out.at 10 (by simp [hd]) _ rfl
    clear hd
    go_simp
    exact hK _ _ ⟨fun s=>if s=20 then Value.bool false else if s=15 then .bool false else if s=19 then undef else z s,rfl,hid (HV.out.up2 11 6 10 _ rfl _ rfl _ rfl),HW⟩
   ·rintro b a wy hb hd ⟨z,rfl,HV,HW⟩ K hK
    simp [Region.binds] at hd
    have e11:z 20=Value.bool false:=HV.out.at 11 (by simp [hd]) _ rfl
    clear hd
    go_simp
    exact hK _ _ ⟨fun s=>if s=21 then Value.bool false else if s=20 then Value.bool false else z s,rfl,hid (HV.out.up1 12 11 _ rfl _ rfl),HW⟩
   iterate 7
    rintro b a wy hb hd ⟨z,rfl,HV,HW⟩ K hK
    simp [Region.binds] at hd
    have e:=HV.out.at 12 (by simp [hd])
    replace e:z 21=Value.bool false:=e _ rfl
    clear hd
    go_simp
    refine hK _ _ ⟨_,?_,hid (HV.out.up1 _ 12 _ rfl _ rfl),HW⟩
    rfl
   ·rintro b a wy hb hd ⟨z,rfl,HV,HW⟩ K hK
    simp [Region.binds] at hd
    have e12:z 21=Value.bool false:=HV.out.at 12 (by simp [hd]) _ rfl
    have e19:z 28=undef:=HV.out.at 19 (by simp [hd]) _ rfl
    clear hd
    go_simp
    exact hK _ _ ⟨fun s=>if s=29 then Value.bool false else if s=21 then Value.bool false else if s=28 then undef else z s,rfl,hid (HV.out.up2 20 12 19 _ rfl _ rfl _ rfl),HW⟩
   ·rintro b a wy hb hd ⟨z,rfl,HV,HW⟩ K hK
    simp [Region.binds] at hd
    have e20:z 29=Value.bool false:=HV.out.at 20 (by simp [hd]) _ rfl
    clear hd
    go_simp
    exact hK _ _ ⟨fun s=>if s=30 then Value.bool false else if s=29 then Value.bool false else z s,rfl,hid (HV.out.up1 21 20 _ rfl _ rfl),HW⟩
   iterate 9
    rintro b a wy hb hd ⟨z,rfl,HV,HW⟩ K hK
    simp [Region.binds] at hd
    have e:=HV.out.at 21 (by simp [hd])
    replace e:z 30=Value.bool false:=e _ rfl
    clear hd
    go_simp
    refine hK _ _ ⟨_,?_,hid (HV.out.up1 _ 21 _ rfl _ rfl),HW⟩
    rfl
   ·rintro b a wy hb hd ⟨z,rfl,HV,HW⟩ K hK
    simp [Region.binds] at hd
    have e21:z 30=Value.bool false:=HV.out.at 21 (by simp [hd]) _ rfl
    have e30:z 39=undef:=HV.out.at 30 (by simp [hd]) _ rfl
    clear hd
    go_simp
    exact hK _ _ ⟨fun s=>if s=40 then Value.bool false else if s=30 then Value.bool false else if s=39 then undef else z s,rfl,hid (HV.out.up2 31 21 30 _ rfl _ rfl _ rfl),HW⟩
   ·rintro b a wy hb hd ⟨z,rfl,HV,HW⟩ K hK
    simp [Region.binds] at hd
    have e31:z 40=Value.bool false:=HV.out.at 31 (by simp [hd]) _ rfl
    clear hd
    go_simp
    exact hK _ _ ⟨fun s=>if s=4 then Value.bool false else if s=40 then Value.bool false else z s,rfl,hid (HV.out.end1 31 _ rfl _ rfl),HW⟩
  case doneA =>
   rintro b a wy hb ⟨z,rfl,HV,HW⟩
   have e4:z 4=Value.bool false:=HV.out.2 (hb 32) _ rfl
   rw [e4]
   clear HV hb e4
   go_wp2_with fail
   go_ret
   exact ⟨by rw [HZ.out]; rfl,HB.out.trans (HW.out.mono HB.out.size)⟩
end Go.Proofs.YtogchamogbendaaGreat.Bs
