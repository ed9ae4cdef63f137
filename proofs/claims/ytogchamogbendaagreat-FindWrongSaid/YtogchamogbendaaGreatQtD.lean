import Derived.BigQuiet
import Derived.Deep.DeepCutAuto
import Derived.Maps.AppendAt
import Derived.Deep.CutBlock
import Derived.StillTailTactics
import Derived.Test.YtogchamogbendaaGreatQtC
import Derived.Test.YtogchamogbendaaGreatQtA
import Derived.Test.YtogchamogbendaaGreatQtu
set_option maxRecDepth 100000
set_option linter.unusedVariables false
set_option linter.unusedSimpArgs false
namespace Go.Proofs.YtogchamogbendaaGreat.Bs
open Go.RowKit Oct Mv Tl Pk Pl Go.Maps Go.ChangeMaps
theorem IRow.at {w:World} {A:Option Addr} {n c:Nat} {l:List Itm} (h:IRow w A n c l) {i:Nat} (hi:i<n) :
  ∃b o,A=some ⟨b,o,none⟩ ∧ ∀i (hi:i<l.length),w.cell? ⟨b,o+2*i,none⟩=some (.int .u64 (l[i].1.toNat:Int))∧w.cell? ⟨b,o+2*i+1,none⟩=some (.int .u64 (l[i].2.toNat:Int)):=by
 rcases h.es with q | ⟨b,o,e,hh⟩
 ·have h1:=ivs_nil_iff.1 q
  have h2:=h.el
  rw [h1] at h2
  simp at h2
  omega
 ·refine ⟨b,o,e,fun i hi=>⟨?_,?_⟩⟩
  ·have h1:=ivs_key l i hi
   have hl:2*i<(ivs l).length:=by rw [length_ivs]; omega
   rw [List.getElem?_eq_getElem hl,Option.some.injEq] at h1
   exact (hh (2*i) hl).trans (congrArg some h1)
  ·have h1:=ivs_val l i hi
   have hl:2*i+1<(ivs l).length:=by rw [length_ivs]; omega
   rw [List.getElem?_eq_getElem hl,Option.some.injEq] at h1
   exact (hh (2*i+1) hl).trans (congrArg some h1)
end Go.Proofs.YtogchamogbendaaGreat.Bs
namespace Go.Proofs.YtogchamogbendaaGreat.Bs
open Go.RowKit Oct Mv Tl Pk Pl Go.Maps Go.ChangeMaps
end Go.Proofs.YtogchamogbendaaGreat.Bs
namespace Go.Proofs.YtogchamogbendaaGreat.Bs
open Go.RowKit Oct Mv Tl Pk Pl Go.Maps Go.ChangeMaps
open Lf (Nd Fit nodePage RowN ToldN Rises)
open No (atR at_any low low_le Ok)
def spotI (out:List Itm) (k:UInt64):Nat:=low (out.map Prod.fst) k
theorem spotI_le (out:List Itm) (k:UInt64):spotI out k≤out.length:=by
 have:=low_le (out.map Prod.fst) k
 rw [List.length_map] at this
 exact this
theorem spot_low {out:List Itm} (h:Ris out) (k:UInt64) {i:Nat} (hi:i<out.length):out[i].1.toNat<k.toNat↔i<spotI out k:=by
 have:=low_spec (out.map Prod.fst) k (List.pairwise_map.2 h) i (by rw [List.length_map]; exact hi)
 rw [List.getD_eq_getElem?_getD,List.getElem?_eq_getElem (by rw [List.length_map]; exact hi)] at this
 unfold spotI
 simpa using this
theorem spot_is {out:List Itm} (h:Ris out) (k:UInt64) {i:Nat} (hi:i≤out.length) (h1 : ∀(g:0<i),(out[i-1]'(by omega)).1.toNat<k.toNat) (h2 : ∀j,i≤j→(g:j<out.length)→k.toNat≤out[j].1.toNat):i=spotI out k:=by
 have hl:=spotI_le out k
 rcases Nat.lt_trichotomy i (spotI out k) with q | q | q
 ·have:=(spot_low h k (i:=i) (by omega)).2 q
  have:=h2 i (Nat.le_refl _) (by omega)
  omega
 ·exact q
 ·have:=(spot_low h k (i:=i-1) (by omega)).1 (h1 (by omega))
  omega
theorem spot_in {out:List Itm} (h:Ris out) (k:UInt64):k∈out.map Prod.fst ↔ ∃g:spotI out k<out.length,out[spotI out k].1=k:=by
 constructor
 ·intro hk
  obtain ⟨p,hp,rfl⟩:=List.mem_map.1 hk
  obtain ⟨i,hi,rfl⟩:=List.mem_iff_getElem.1 hp
  have e:i=spotI out out[i].1:=by
   refine spot_is h _ (Nat.le_of_lt hi) (fun g => ?_) (fun j hj g => ?_)
   ·exact List.pairwise_iff_getElem.1 h (i-1) i (by omega) hi (by omega)
   ·rcases Nat.lt_or_ge i j with q | q
    ·exact Nat.le_of_lt (List.pairwise_iff_getElem.1 h i j hi g q)
    ·have:i=j:=by omega
     subst this
     exact Nat.le_refl _
  refine ⟨by rw [← e]; exact hi,?_⟩
  congr 2
  exact e.symm
 ·rintro ⟨g,e⟩
  rw [← e]
  exact List.mem_map_of_mem (List.getElem_mem g)
def insI (out:List Itm) (x:Itm):List Itm:=if x.1∈out.map Prod.fst then out else out.take (spotI out x.1)++x :: out.drop (spotI out x.1)
def risingF (l:List Itm):List Itm:=l.foldl insI []
theorem risingF_next {l:List Itm} {i:Nat} (hi:i<l.length):risingF (l.take (i+1))=insI (risingF (l.take i)) l[i]:=by
 unfold risingF
 rw [List.take_add_one,List.getElem?_eq_getElem hi,List.foldl_append]
 rfl
theorem insI_ris {out:List Itm} (h:Ris out) (x:Itm):Ris (insI out x):=by
 unfold insI
 split
 ·exact h
 ·rename_i hx
  have hl:=spotI_le out x.1
  refine List.pairwise_append.2 ⟨List.Pairwise.sublist (List.take_sublist ..) h,List.pairwise_cons.2 ⟨fun p hp => ?_,List.Pairwise.sublist (List.drop_sublist ..) h⟩,fun p hp q hq => ?_⟩
  ·obtain ⟨j,hj,rfl⟩:=List.mem_iff_getElem.1 hp
   rw [List.length_drop] at hj
   rw [List.getElem_drop]
   have h1 : ¬(out[spotI out x.1+j]'(by omega)).1.toNat<x.1.toNat:=fun g=>by
    have:=(spot_low h x.1 (i:=spotI out x.1+j) (by omega)).1 g
    omega
   have h2:(out[spotI out x.1+j]'(by omega)).1≠x.1:=fun e=>hx (by rw [← e]; exact List.mem_map_of_mem (List.getElem_mem _))
   have h3:(out[spotI out x.1+j]'(by omega)).1.toNat≠x.1.toNat:=fun e=>h2 (UInt64.toNat_inj.1 e)
   omega
  ·obtain ⟨i,hi,rfl⟩:=List.mem_iff_getElem.1 hp
   rw [List.length_take] at hi
   rw [List.getElem_take]
   have h1:=(spot_low h x.1 (i:=i) (by omega)).2 (by omega)
   rcases List.mem_cons.1 hq with e | e
   ·rw [e]; exact h1
   ·obtain ⟨j,hj,rfl⟩:=List.mem_iff_getElem.1 e
    rw [List.length_drop] at hj
    rw [List.getElem_drop]
    exact List.pairwise_iff_getElem.1 h i (spotI out x.1+j) (by omega) (by omega) (by omega)
theorem insI_len (out:List Itm) (x:Itm):(insI out x).length≤out.length+1∧out.length≤(insI out x).length:=by
 unfold insI
 split
 ·omega
 ·have:=spotI_le out x.1
  rw [List.length_append,List.length_cons,List.length_take,List.length_drop]
  omega
theorem risingF_ris (l:List Itm):Ris (risingF l):=by
 unfold risingF
 have : ∀(l out:List Itm),Ris out→Ris (l.foldl insI out):=by
  intro l
  induction l with
  | nil=>exact fun out h=>h
  | cons a r ih=>exact fun out h=>ih _ (insI_ris h a)
 exact this l [] List.Pairwise.nil
theorem risingF_len (l:List Itm):(risingF l).length≤l.length:=by
 unfold risingF
 have : ∀(l out:List Itm),(l.foldl insI out).length≤out.length+l.length:=by
  intro l
  induction l with
  | nil=>intro out; simp
  | cons a r ih =>
   intro out
   have h1:=ih (insI out a)
   have h2:=(insI_len out a).1
   rw [List.foldl_cons,List.length_cons]
   omega
 have h:=this l []
 simpa using h
end Go.Proofs.YtogchamogbendaaGreat.Bs
namespace Go.Proofs.YtogchamogbendaaGreat.Bs
open Go.RowKit Oct Mv Tl Pk Pl Go.Maps Go.ChangeMaps
def upH (n:Nat):Nat:=if h:7<n then upH ((n+6)/7)+1 else 1
termination_by n
decreasing_by omega
theorem upH_more {n:Nat} (h:7<n):upH n=upH ((n+6)/7)+1:=by rw [upH,dif_pos h]
theorem upH_one {n:Nat} (h:n≤7):upH n=1:=by rw [upH,dif_neg (by omega)]
def hgt (n:Nat):Nat:=if n=0 then 0 else upH n
theorem upH_le (n:Nat):upH n≤n+1:=by
 induction n using Nat.strongRecOn with
 | _ n ih =>
  rcases Nat.lt_or_ge 7 n with h | h
  ·rw [upH_more h]
   have:=ih ((n+6)/7) (by omega)
   omega
  ·rw [upH_one h]; omega
theorem upH_pos (n:Nat):1≤upH n:=by
 rcases Nat.lt_or_ge 7 n with h | h
 ·rw [upH_more h]; omega
 ·rw [upH_one h]; omega
end Go.Proofs.YtogchamogbendaaGreat.Bs
namespace Go.Proofs.YtogchamogbendaaGreat.Bs
open Go.RowKit Oct Mv Tl Pk Pl Go.Maps Go.ChangeMaps
def manyN (n:Nat):Nat:=(n+6)/7
def cutN (n i:Nat):Nat:=i*n/manyN n
theorem many_pos {n:Nat} (h:1≤n):1≤manyN n:=by unfold manyN; omega
theorem cut_step {n i:Nat} (h:1≤n):cutN n i+1≤cutN n (i+1)∧cutN n (i+1)≤cutN n i+7∧(2≤manyN n→cutN n i+3≤cutN n (i+1)):=by
 have hp:=many_pos h
 unfold cutN
 rw [Nat.add_mul,Nat.one_mul]
 have key : ∀k,k*manyN n≤n→i*n/manyN n+k≤(i*n+n)/manyN n:=fun k hk=>by
  rw [← Nat.add_mul_div_right _ _ hp]
  exact Nat.div_le_div_right (by omega)
 have top:(i*n+n)/manyN n≤i*n/manyN n+7:=by
  rw [← Nat.add_mul_div_right _ _ hp]
  exact Nat.div_le_div_right (by unfold manyN; omega)
 refine ⟨key 1 (by unfold manyN; omega),top,fun h2=>key 3 (by unfold manyN at h2 ⊢; omega)⟩
theorem cut_zero (n:Nat):cutN n 0=0:=by unfold cutN; rw [Nat.zero_mul,Nat.zero_div]
theorem cut_end {n:Nat} (h:1≤n):cutN n (manyN n)=n:=by unfold cutN; exact Nat.mul_div_cancel_left n (many_pos h)
theorem cut_le {n i:Nat} (h:1≤n) (hi:i≤manyN n):cutN n i≤n:=by
 have:i*n/manyN n≤manyN n*n/manyN n:=Nat.div_le_div_right (Nat.mul_le_mul_right n hi)
 rw [Nat.mul_div_cancel_left n (many_pos h)] at this
 exact this
structure Forest (nd:Int→NR) (P:Int→Prop) (m lv:Nat) (ups:List Itm) (segs:List (List Itm)):Prop where
 len:segs.length=ups.length
 each : ∀i,i<ups.length→Tr nd P m lv ((ups.getD i (0,0)).2.toNat:Int) (segs.getD i []) ∧ ∃v r,segs.getD i []=((ups.getD i (0,0)).1,v) :: r
theorem Forest.nil (nd:Int→NR) (P:Int→Prop) (m lv:Nat):Forest nd P m lv [] []:=⟨rfl,fun i hi=>by cases hi⟩
theorem Forest.mono {nd nd':Int→NR} {P P':Int→Prop} (h : ∀z,P z→nd' z=nd z∧P' z) {m lv:Nat} {ups:List Itm} {segs:List (List Itm)} (f:Forest nd P m lv ups segs):Forest nd' P' m lv ups segs :=
 ⟨f.len,fun i hi=>⟨Tr.mono h (f.each i hi).1,(f.each i hi).2⟩⟩
theorem getD_lhs {α:Type} {l m:List α} {i:Nat} {d:α} (h:i<l.length):(l++m).getD i d=l.getD i d:=by
 rw [List.getD_eq_getElem?_getD,List.getD_eq_getElem?_getD,List.getElem?_append_left h]
theorem getD_end {α:Type} {l:List α} {x d:α}:(l ++ [x]).getD l.length d=x:=by
 rw [List.getD_eq_getElem?_getD,List.getElem?_append_right (Nat.le_refl _),Nat.sub_self]
 rfl
theorem Forest.push {nd:Int→NR} {P:Int→Prop} {m lv:Nat} {ups:List Itm} {segs:List (List Itm)} (f:Forest nd P m lv ups segs) {k b:UInt64} {s:List Itm} (ht:Tr nd P m lv (b.toNat:Int) s) (hs : ∃v r,s=(k,v) :: r):Forest nd P m lv (ups ++ [(k,b)]) (segs ++ [s]):=by
 refine ⟨by rw [List.length_append,List.length_append,f.len]; rfl,fun i hi => ?_⟩
 rw [List.length_append] at hi
 simp only [List.length_cons,List.length_nil] at hi
 rcases Nat.lt_or_ge i ups.length with q | q
 ·rw [getD_lhs q,getD_lhs (by rw [f.len]; exact q)]
  exact f.each i q
 ·have e:i=ups.length:=by omega
  subst e
  rw [getD_end]
  have e2:(segs ++ [s]).getD ups.length []=s:=by rw [← f.len]; exact getD_end
  rw [e2]
  exact ⟨ht,hs⟩
theorem getD_piece {α:Type} {l:List α} {a n i:Nat} {d:α} (h:i<n):((l.drop a).take n).getD i d=l.getD (a+i) d:=by
 rw [List.getD_eq_getElem?_getD,List.getD_eq_getElem?_getD,List.getElem?_take_of_lt h,List.getElem?_drop]
theorem getD_map {α β:Type} (f:α→β) {l:List α} {i:Nat} {d:α}:(l.map f).getD i (f d)=f (l.getD i d):=by
 rw [List.getD_eq_getElem?_getD,List.getD_eq_getElem?_getD,List.getElem?_map]
 cases l[i]? <;> rfl
theorem Forest.node {nd:Int→NR} {P:Int→Prop} {lv:Nat} {ups:List Itm} {segs:List (List Itm)} (f:Forest nd P 3 lv ups segs) {a n:Nat} (hn:0<n) (ha:a+n≤ups.length) {z:Int} (hz:P z)
  (hd:nd z=⟨false,((ups.drop a).take n).map Prod.fst,((ups.drop a).take n).map Prod.snd,0⟩) :
  Tr nd P n (lv+1) z ((segs.drop a).take n).flatten ∧ ∃v r,((segs.drop a).take n).flatten=((ups.getD a (0,0)).1,v) :: r:=by
 have hl:=f.len
 have hk:(((ups.drop a).take n).map Prod.fst).length=n:=by rw [List.length_map,List.length_take,List.length_drop]; omega
 refine ⟨⟨hz,_,_,(segs.drop a).take n,hd,?_,rfl,?_,?_,fun i hi => ?_⟩,?_⟩
 ·rw [hk,List.length_take,List.length_drop]; omega
 ·rw [hk]; exact Nat.le_refl _
 ·rw [hk]; exact hn
 ·rw [hk] at hi
  rw [getD_piece hi,show (0:UInt64)=Prod.snd ((0,0):Itm) from rfl,getD_map,getD_piece hi]
  rw [show (Prod.snd ((0,0):Itm))=Prod.fst ((0,0):Itm) from rfl,getD_map,getD_piece hi]
  exact f.each (a+i) (by omega)
 ·obtain ⟨v,r,e⟩:=(f.each a (by omega)).2
  have h1:(segs.drop a).take n=segs.getD a [] :: ((segs.drop (a+1)).take (n-1)):=by
   obtain ⟨t,rfl⟩ : ∃t,n=t+1:=⟨n-1,by omega⟩
   rw [List.drop_eq_getElem_cons (by omega),List.take_succ_cons,List.getD_eq_getElem?_getD,List.getElem?_eq_getElem (by omega)]
   rfl
  rw [h1,List.flatten_cons,e,List.cons_append]
  exact ⟨v,_,rfl⟩
theorem take_piece {α:Type} (L:List (List α)) (a k:Nat):(L.take a).flatten++((L.drop a).take k).flatten=(L.take (a+k)).flatten:=by
 rw [← List.flatten_append]
 congr 1
 rw [List.take_add]
theorem leaf_tree {nd:Int→NR} {P:Int→Prop} {l:List Itm} {a n:Nat} (hn:0<n) (ha:a+n≤l.length) {z:Int} (hz:P z) (hd:nd z=⟨true,((l.drop a).take n).map Prod.fst,((l.drop a).take n).map Prod.snd,0⟩) :
  Tr nd P n 0 z ((l.drop a).take n) ∧ ∃v r,(l.drop a).take n=((l.getD a (0,0)).1,v) :: r:=by
 have hl:((l.drop a).take n).length=n:=by rw [List.length_take,List.length_drop]; omega
 refine ⟨⟨hz,hd,by omega,by omega⟩,?_⟩
 obtain ⟨t,rfl⟩ : ∃t,n=t+1:=⟨n-1,by omega⟩
 rw [List.drop_eq_getElem_cons (by omega),List.take_succ_cons,List.getD_eq_getElem?_getD,List.getElem?_eq_getElem (by omega)]
 exact ⟨_,_,rfl⟩
theorem many_one {n:Nat} (h:1≤n):manyN n=1↔n≤7:=by unfold manyN; omega
theorem upH_many {n:Nat} (h:7<n):upH n=upH (manyN n)+1:=upH_more h
theorem many_less {n:Nat} (h:7<n):manyN n<n:=by unfold manyN; omega
end Go.Proofs.YtogchamogbendaaGreat.Bs
namespace Go.Proofs.YtogchamogbendaaGreat.Bs
open Go.RowKit Oct Mv Tl Go.Maps Go.ChangeMaps
theorem run_copy_row2 {P:Program} (w:World) (dT sT ty elem:TypeId) (g o dLen dCap:Nat) (a:Addr) (sLen sCap n:Nat) (cur:Array Value) (t:TypeId) (cs:List Value)
  (hu:P.underlying dT=some (.slice elem)) (hs:(P.info? elem).map (·.size)=some 2)
  (hg:w.heap[g]?=some (.cells cur t (0,0))) (hn:n=Nat.min sLen dLen) (hc:cs.length=n*2)
  (hsrc : ∀j v,cs[j]?=some v→w.cell? (a.add j)=some v) (hfit:o+cs.length≤cur.size) (h1 : ∀v∈cs,v.oneCell'=true) :
  (Builtin.copy_ #[dT,sT] ty #[.slice (some ⟨g,o,none⟩) dLen dCap,.slice (some a) sLen sCap]).run P w =
   .ok (goInt n) (w.setRow g (cur.toList.take o++cs++cur.toList.drop (o+cs.length)).toArray):=by
 have hl:=run_loadCells_list (P:=P) w a cs hsrc
 have hst:=run_storeCells_at P g o t cs 0 cur w hg (by simpa using hfit) h1
 rw [hc] at hl
 cases hq:P.info? elem with
 | none=>simp [hq] at hs
 | some i =>
  have hi:i.size=2:=by simpa [hq] using hs
  simp [Builtin.copy_,run_underlying hu,Builtin.lenOf,Builtin.firstCells,sizeOf,typeInfo,hq,hi,← hn,hl,hst]
theorem OwnJ.opened {w:World} {base g n cap:Nat} {es:List Itm} (h:OwnJ w base (.slice (some ⟨g,0,none⟩) n cap) es) :
  es.length=n∧base≤g ∧ ∃cur,w.heap[g]?=some (.cells cur 104 (0,0))∧n≤cap∧cap≤maxLen∧cur.size=cap*2∧cur.toList.take (n*2)=ivs es:=by
 rcases h.2 with ⟨q,_⟩ | ⟨g',cap',cur,e,hb,hg,hn,hm,hs,ht⟩
 ·cases q
 ·cases e
  exact ⟨rfl,hb,cur,hg,hn,hm,hs,ht⟩
theorem OwnJ.shift {w:World} {base g m cap:Nat} {acc:List Itm} {z:Itm} (h:OwnJ w base (.slice (some ⟨g,0,none⟩) (m+1) cap) (acc ++ [z])) {j:Nat} (hj:j≤m) (ty:TypeId) (o1 o2 n1 n2 c1 c2:Nat) (e1:o1=(j+1)*2) (e2:o2=j*2) (e3:n1=m-j) (e4:n2=m+1-j) :
  ∃w',(Builtin.copy_ #[83,83] ty #[.slice (some ⟨g,o1,none⟩) n1 c1,.slice (some ⟨g,o2,none⟩) n2 c2]).run Tryz.prog w = .ok (goInt ((m-j:Nat):Int)) w' ∧
   (∃y,OwnJ w' base (.slice (some ⟨g,0,none⟩) (m+1) cap) (acc.take j++y :: acc.drop j))∧w'.os=w.os∧w'.tape=w.tape∧w'.output=w.output∧w'.heap.size=w.heap.size ∧ ∀k,k≠g→w'.heap[k]?=w.heap[k]?:=by
 obtain ⟨hl,hb,cur,hg,hn,hm,hs,ht⟩:=h.opened
 have hla:acc.length=m:=by rw [List.length_append] at hl; simpa using hl
 obtain ⟨i0,hi,hz0,hz1,hz2⟩:=info_parts item_info
 subst e1 e2 e3 e4
 have hcs:(ivs (acc.drop j)).length=(m-j)*2:=by rw [length_ivs,List.length_drop,hla]; omega
 have hcut : ∀i,i<(m+1)*2→cur.toList[i]?=(ivs (acc ++ [z]))[i]?:=fun i hi=>by rw [← ht,List.getElem?_take_of_lt hi]
 have hsplit:ivs (acc ++ [z])=ivs (acc.take j)++(ivs (acc.drop j)++ivs [z]):=by rw [← ivs_append,← ivs_append,← List.append_assoc,List.take_append_drop]
 have htk:(ivs (acc.take j)).length=j*2:=by rw [length_ivs,List.length_take,hla]; omega
 have hr:=run_copy_row2 (P:=Tryz.prog) w 83 83 ty 104 g ((j+1)*2) (m-j) c1 ⟨g,j*2,none⟩ (m+1-j) c2 (m-j) cur 104 (ivs (acc.drop j)) Tryz.underlying83 (by rw [hi]; exact congrArg some hz1) hg (by show m-j=min (m+1-j) (m-j); omega) hcs
  (fun i v hv=>by
   have hil:i<(ivs (acc.drop j)).length:=(List.getElem?_eq_some_iff.1 hv).1
   rw [add_plain]
   have h1:w.cell? ⟨g,j*2+i,none⟩=cur[j*2+i]?:=by
    simp [World.cell?,hg]
   rw [h1,← Array.getElem?_toList,hcut _ (by omega),hsplit,List.getElem?_append_right (by omega),htk,show j*2+i-j*2=i by omega,List.getElem?_append_left hil]
   exact hv)
  (by rw [hcs,hs]; omega) (ivs_one _)
 refine ⟨_,hr,?_,rfl,rfl,rfl,by simp,fun k hk=>setRow_other _ _ _ _ hk⟩
 have hy : ∃y:Itm,(acc ++ [z])[j]?=some y:=⟨_,List.getElem?_eq_getElem (by rw [hl]; omega)⟩
 obtain ⟨y,hy⟩:=hy
 have hlen:(acc.take j++y :: acc.drop j).length=m+1:=by rw [List.length_append,List.length_cons,List.length_take,List.length_drop,hla]; omega
 refine ⟨y,by rw [length_ivs,hlen]; omega,.inr ⟨g,cap,_,by rw [hlen],hb,setRow_heap _ _ _ _ _ _ hg,by rw [hlen]; exact hn,hm,?_,?_⟩⟩
 ·simp only [List.size_toArray,List.length_append,List.length_take,List.length_drop,hcs,Array.length_toList,hs]
  omega
 ·rw [hlen]
  have h1:cur.toList.take ((j+1)*2)=ivs (acc.take j)++ivs [y]:=by
   have:cur.toList.take ((j+1)*2)=(ivs (acc ++ [z])).take ((j+1)*2):=by rw [← ht,List.take_take,Nat.min_eq_left (by omega)]
   rw [this]
   have e5:acc ++ [z]=acc.take j++([y]++(acc ++ [z]).drop (j+1)):=by
    have h2:=List.getElem?_eq_some_iff.1 hy
    conv=>lhs; rw [← List.take_append_drop j (acc ++ [z]),List.drop_eq_getElem_cons h2.1,h2.2,List.take_append_of_le_length (by omega)]
    rfl
   rw [e5,ivs_append,ivs_append,← List.append_assoc,List.take_left' (by rw [List.length_append,htk]; show j*2+2=_; omega)]
  rw [List.toList_toArray,h1,List.take_append_of_le_length (by simp only [List.length_append,htk,hcs]; show (m+1)*2≤j*2+2+(m-j)*2; omega),List.take_of_length_le (by simp only [List.length_append,htk,hcs]; show j*2+2+(m-j)*2≤(m+1)*2; omega),List.append_assoc,← ivs_append,← ivs_append]
  rfl
theorem item_size (w:World):(Go.sizeOf 104).run Tryz.prog w = .ok 2 w:=by kernel_rfl
theorem items_tail (b n c k:Nat) (hk:k≤n) (hc:n≤c) (hm:c≤maxLen) (z:Int) (hz:z=(k:Int)) : ∃x:Nat,(∀w,(Instr.slice 83 (.slice (some ⟨b,0,none⟩) n c) (some (.int .i64 z)) none none).run Tryz.prog w = .ok (.slice (some ⟨b,x,none⟩) (n-k) (c-k)) w)∧(k<c→x=k*2)∧x≤k*2:=by
 subst hz
 unfold maxLen at hm
 have ht:Tryz.prog.underlying 83 = some (.slice (Tryz.prog.elem 83)):=by simp [Program.elem,Tryz.underlying83]
 have he:Tryz.prog.elem 83 = 104 := by simp [Program.elem,Tryz.underlying83]
 refine ⟨if c=k then 0 else k*2,fun w => ?_,fun h=>by rw [if_neg (by omega)],by split <;> omega⟩
 rw [run_slice_l w 83 _ n c ht .i64 (k:Int) (by omega) (by omega),he,item_size]
 by_cases hck:c=k
 ·simp [Result.andThen,sliced,hck]
 ·simp [Result.andThen,sliced,hck,add_plain]
theorem OwnJ.shift0 {w:World} {base g m cap:Nat} {es:List Itm} (h:OwnJ w base (.slice (some ⟨g,0,none⟩) m cap) es) (ty:TypeId) (o1 o2 n2 c1 c2:Nat) (e1:o1≤m*2) :
  (Builtin.copy_ #[83,83] ty #[.slice (some ⟨g,o1,none⟩) 0 c1,.slice (some ⟨g,o2,none⟩) n2 c2]).run Tryz.prog w = .ok (goInt 0) w:=by
 obtain ⟨hl,hb,cur,hg,hn,hm,hs,ht⟩:=h.opened
 obtain ⟨i0,hi,hz0,hz1,hz2⟩:=info_parts item_info
 have hr:=run_copy_row2 (P:=Tryz.prog) w 83 83 ty 104 g o1 0 c1 ⟨g,o2,none⟩ n2 c2 0 cur 104 [] Tryz.underlying83 (by rw [hi]; exact congrArg some hz1) hg (by show 0=min n2 0; omega) rfl
  (fun i v hv=>by simp at hv) (by simp only [List.length_nil,hs]; omega) (fun u hu=>by cases hu)
 have e:(cur.toList.take o1 ++ []++cur.toList.drop (o1+([]:List Value).length)).toArray=cur:=by
  rw [List.append_nil,List.length_nil,Nat.add_zero,List.take_append_drop]
 rw [e,setRow_self w g cur _ _ hg] at hr
 exact hr
theorem ivs_put (a b:List Itm) (y p:Itm):((ivs (a++y :: b)).set (a.length*2) (.int .u64 (p.1.toNat:Int))).set (a.length*2+1) (.int .u64 (p.2.toNat:Int))=ivs (a++p :: b):=by
 have h1:(ivs a).length=a.length*2:=by rw [length_ivs]; omega
 rw [ivs_append,ivs_append,List.set_append_right _ _ (by omega),h1,Nat.sub_self,List.set_append_right _ _ (by omega),h1,show a.length*2+1-a.length*2=1 by omega]
 rfl
theorem OwnJ.put {w:World} {base g n cap:Nat} {a b:List Itm} {y:Itm} (h:OwnJ w base (.slice (some ⟨g,0,none⟩) n cap) (a++y :: b)) (p:Itm) {j:Nat} (hj:a.length=j) :
  (∃v,w.cell? ⟨g,j*2,none⟩=some v)∧(∃v,w.cell? ⟨g,j*2+1,none⟩=some v)∧w.frozen? ⟨g,j*2,none⟩=false∧w.frozen? ⟨g,j*2+1,none⟩=false ∧
   OwnJ ((w.setCell ⟨g,j*2,none⟩ (.int .u64 (p.1.toNat:Int))).setCell ⟨g,j*2+1,none⟩ (.int .u64 (p.2.toNat:Int))) base (.slice (some ⟨g,0,none⟩) n cap) (a++p :: b):=by
 subst hj
 obtain ⟨hl,hb,cur,hg,hn,hm,hs,ht⟩:=h.opened
 rw [List.length_append,List.length_cons] at hl
 have hr:RowV w g 104 cur.toList:=hg
 have hcl:cur.toList.length=cap*2:=by rw [Array.length_toList,hs]
 have c0:=hr.cellAt (List.getElem?_eq_getElem (l:=cur.toList) (i:=a.length*2) (by omega))
 have c1:=hr.cellAt (List.getElem?_eq_getElem (l:=cur.toList) (i:=a.length*2+1) (by omega))
 refine ⟨⟨_,c0⟩,⟨_,c1⟩,hr.free _,hr.free _,?_⟩
 have h2:=(hr.set (a.length*2) (.int .u64 (p.1.toNat:Int))).set (a.length*2+1) (.int .u64 (p.2.toNat:Int))
 have hlen:(a++p :: b).length=n:=by rw [List.length_append,List.length_cons]; exact hl
 refine ⟨by rw [length_ivs,hlen]; omega,.inr ⟨g,cap,_,by rw [hlen],hb,h2,by rw [hlen]; exact hn,hm,by simp [hs],?_⟩⟩
 rw [hlen,List.toList_toArray,List.take_set,List.take_set,ht,ivs_put]
end Go.Proofs.YtogchamogbendaaGreat.Bs
namespace Go.Proofs.YtogchamogbendaaGreat.Bs
open Lib (hid)
open Go.RowKit Oct Mv Tl Pk Pl Go.Maps Go.ChangeMaps
set_option maxHeartbeats 2000000 in
theorem rising_any {w:World} {A:Option Addr} {n c:Nat} {l:List Itm} (h:IRow w A n c l) (hn1:n≤8796093022000) (r:List Itm) (hr:r=risingF l) :
  Calls Tryz.prog 50 #[.slice A n c] w fun e w' => ∃v,e = .returned v∧OwnJ w' w.heap.size v r∧Below w.heap.size w w':=by
 obtain ⟨i0,hi,hz0,hz1,hz2⟩:=info_parts item_info
 have H:=hid h
 have HR:=hid hr
 have HL:=hid h.el
 have hnc:n≤c:=h.kc
 have hcm:=h.km
 unfold maxLen at hcm
 clear h hr
 go_enter Tryz.func50,Tryz.ntmps50
 go_wp2_with fail
 go_loopw [3,9] (fun v i wr => ∃(k:Nat) (acc:List Itm),k≤n∧i = .int .i64 (k:Int)∧Hid (acc=risingF (l.take k))∧Hid (OwnJ wr w.heap.size v acc)∧Hid (Below w.heap.size w wr)) (fun _ i _=>n-(Go.RowKit.intOf i).toNat)
 case atStart=>exact ⟨0,[],Nat.zero_le _,rfl,hid rfl,hid (OwnJ.nil _ _),hid (Below.refl _ _)⟩
 case round =>
  obtain ⟨k,acc,hk,rfl,HA,HO,HB⟩:=hrel
  obtain ⟨wz,hwz⟩ : ∃q,q=wr:=⟨_,rfl⟩
  subst hwz
  obtain ⟨G,cap,rfl,hg,_⟩:=HO.out.slice
  have hgc:=hg.kc
  have hgm:=hg.km
  unfold maxLen at hgm
  have hal:acc.length≤n:=by
   have h1:=risingF_len (l.take k)
   rw [← HA.out,List.length_take] at h1
   omega
  have HG:=hid hg
  clear hg
  by_cases hlt:k<n
  ·obtain ⟨b,o,rfl,hc⟩:=H.out.at hlt
   have hkl:k<l.length:=by rw [HL.out]; exact hlt
   have hbw:b<w.heap.size:=World.block_lt_of_cell? w _ (hc k hkl).1
   have c1:=(World.cell?_of_block (a:=⟨b,o+2*k,none⟩) (HB.out.block b hbw)).trans (hc k hkl).1
   have c2:=(World.cell?_of_block (a:=⟨b,o+2*k+1,none⟩) (HB.out.block b hbw)).trans (hc k hkl).2
   have HA2:=hid (risingF_next hkl)
   rw [← HA.out] at HA2
   rw [show o+2*k=o+k*2 by omega] at c1 c2
   clear hc
   generalize l[k]=p at c1 c2 HA2
   have hpl:=p.1.toNat_lt
   have hki:(k:Int)<(n:Int):=by omega
   have hbs:=HB.out.size
   have HX:=hid (alloc_rowV wz 104 [.int .u64 (p.1.toNat:Int),.int .u64 (p.2.toNat:Int)])
   have hal0:=(Below.refl wz.heap.size wz).alloc (Nat.le_refl _) (.cells #[.int .u64 (p.1.toNat:Int),.int .u64 (p.2.toNat:Int)] 104)
   have HO1:=hid (HO.out.kept hal0 (Nat.le_refl _))
   have HB1:=hid (HB.out.trans (hal0.mono hbs))
   have hris:Ris acc:=by rw [HA.out]; exact risingF_ris _
   have HS:=hid hris
   have HN0:=hid hal0
   clear hal0 hris
   go_upto_block 2 with (fail)
   generalize hw1:wz.alloc (.cells #[.int .u64 (p.1.toNat:Int),.int .u64 (p.2.toNat:Int)] 104)=w1 at *
   go_cut [6] (fun s6 wx => ∃j:Nat,s6 = .int .i64 (j:Int)∧j≤acc.length∧Hid (j=spotI acc p.1)∧Hid (Still w1 wx))
   case first =>
    go_wp2_with fail
    go_loopw [6] (fun s6 wx => ∃j:Nat,s6 = .int .i64 (j:Int)∧j≤acc.length∧Hid (∀i,j≤i→(g:i<acc.length)→p.1.toNat≤acc[i].1.toNat)∧Hid (Still w1 wx)) (fun s6 _=>(Go.RowKit.intOf s6).toNat)
    case atStart=>exact ⟨acc.length,rfl,Nat.le_refl _,hid (fun i hi g=>by omega),hid ⟨rfl,rfl,rfl,rfl⟩⟩
    case round =>
     obtain ⟨j,rfl,hj,HU,HW⟩:=hrel
     by_cases h0:0<j
     ·obtain ⟨gb,go,rfl,hcc⟩:=HG.out.at (i:=j-1) (by omega)
      have hjl:j-1<acc.length:=by omega
      have hgb:=World.block_lt_of_cell? wz _ (hcc (j-1) hjl).1
      have d1:=(HW.out.cell _).trans ((World.cell?_of_block (a:=⟨gb,go+2*(j-1),none⟩) (HN0.out.block gb hgb)).trans (hcc (j-1) hjl).1)
      have x1:=(HW.out.cell _).trans (HX.out.cellAt (i:=0) rfl)
      have hjj:(j:Int)-1=((j-1:Nat):Int):=by omega
      have hjg:(0:Int)<(j:Int):=by omega
      rw [show go+2*(j-1)=go+(j-1)*2 by omega] at d1
      have HK:=hid (show p.1.toNat≤acc[j-1].1.toNat → ∀i,j-1≤i→(g:i<acc.length)→p.1.toNat≤acc[i].1.toNat from fun e i hi g=>by
       rcases Nat.lt_or_ge i j with q | q
       ·have:i=j-1:=by omega
        subst this
        exact e
       ·exact HU.out i q g)
      have HE:=hid (show ¬p.1.toNat≤acc[j-1].1.toNat→j=spotI acc p.1 from fun e=>spot_is HS.out p.1 hj (fun g=>by omega) HU.out)
      clear hcc HU
      generalize acc[j-1]=y at d1 HK HE
      have hyl:=y.1.toNat_lt
      by_cases hge:p.1.toNat≤y.1.toNat
      ·have hz1:decide ((p.1.toNat:Int)≤(y.1.toNat:Int))=true:=decide_eq_true (by omega)
       go_wp2_with fail
       go_quiet (fail)
       go_wp2_with fail
       go_roundw
       case rel=>exact ⟨j-1,by go_num,by omega,hid (HK.out hge),hid ⟨HW.out.os,HW.out.tape,HW.out.output,HW.out.heap⟩⟩
       case measure=>simp [Go.RowKit.intOf]; omega
      ·have hz1:decide ((p.1.toNat:Int)≤(y.1.toNat:Int))=false:=decide_eq_false (by omega)
       have hz2:decide (p.1.toNat≤y.1.toNat)=false:=decide_eq_false (by omega)
       go_wp2_with fail
       go_quiet (fail)
       go_wp2_with fail
       go_meet
       case rel=>exact ⟨j,rfl,hj,hid (HE.out hge),hid ⟨HW.out.os,HW.out.tape,HW.out.output,HW.out.heap⟩⟩
     ·obtain rfl:j=0:=by omega
      have hz1:decide ((0:Int)<((0:Nat):Int))=false:=by decide
      have HE:=hid (show 0=spotI acc p.1 from spot_is HS.out p.1 (Nat.zero_le _) (fun g=>by omega) HU.out)
      go_wp2_with fail
      go_quiet (fail)
      go_wp2_with fail
      go_meet
      case rel=>exact ⟨0,rfl,Nat.zero_le _,HE,hid ⟨HW.out.os,HW.out.tape,HW.out.output,HW.out.heap⟩⟩
   case rest =>
    obtain ⟨j,rfl,hj,HJ,HW⟩:=hcut
    have HIN:=hid (show p.1∈acc.map Prod.fst ↔ ∃g:j<acc.length,acc[j].1=p.1 from by
     have h1:=spot_in HS.out p.1
     rw [← HJ.out] at h1
     exact h1)
    have x1:=(HW.out.cell _).trans (HX.out.cellAt (i:=0) rfl)
    go_upto_region 8 with (fail)
    go_cut [43] (fun s43 wx=>s43 = .bool (decide (p.1∈acc.map Prod.fst))∧Hid (Still w1 wx))
    case first =>
     by_cases h0:j<acc.length
     ·obtain ⟨gb,go,rfl,hcc⟩:=HG.out.at h0
      have hgb:=World.block_lt_of_cell? wz _ (hcc j h0).1
      have d1:=(HW.out.cell _).trans ((World.cell?_of_block (a:=⟨gb,go+2*j,none⟩) (HN0.out.block gb hgb)).trans (hcc j h0).1)
      have hjg:(j:Int)<(acc.length:Int):=by omega
      rw [show go+2*j=go+j*2 by omega] at d1
      have HK:=hid (show (p.1∈acc.map Prod.fst)↔acc[j].1=p.1 from HIN.out.trans ⟨fun q=>q.2,fun q=>⟨h0,q⟩⟩)
      clear hcc
      generalize acc[j]=y at d1 HK
      have hyl:=y.1.toNat_lt
      by_cases hge:y.1=p.1
      ·have hz1:decide ((y.1.toNat:Int)=(p.1.toNat:Int))=true:=decide_eq_true (by rw [hge])
       have hz3:((y.1.toNat:Int)==(p.1.toNat:Int))=true:=by rw [hge]; exact beq_self_eq_true _
       go_wp2_with fail
       go_quiet (fail)
       go_wp2_with fail
       go_meet
       case rel=>exact ⟨by rw [decide_eq_true (HK.out.2 hge)],hid ⟨HW.out.os,HW.out.tape,HW.out.output,HW.out.heap⟩⟩
      ·have hnn : ¬y.1.toNat=p.1.toNat:=fun e=>hge (UInt64.toNat_inj.1 e)
       have hz1:decide ((y.1.toNat:Int)=(p.1.toNat:Int))=false:=decide_eq_false (by omega)
       have hz2:decide (y.1.toNat=p.1.toNat)=false:=decide_eq_false hnn
       have hz3:((y.1.toNat:Int)==(p.1.toNat:Int))=false:=beq_eq_false_iff_ne.mpr (by omega)
       go_wp2_with fail
       go_quiet (fail)
       go_wp2_with fail
       go_meet
       case rel=>exact ⟨by rw [decide_eq_false (fun q=>hge (HK.out.1 q))],hid ⟨HW.out.os,HW.out.tape,HW.out.output,HW.out.heap⟩⟩
     ·have hz1:decide ((j:Int)<(acc.length:Int))=false:=decide_eq_false (by omega)
      have hz2:decide (j<acc.length)=false:=decide_eq_false h0
      have HK:=hid (show ¬p.1∈acc.map Prod.fst from fun q=>h0 (HIN.out.1 q).1)
      go_wp2_with fail
      go_quiet (fail)
      go_wp2_with fail
      go_meet
      case rel=>exact ⟨by rw [decide_eq_false HK.out],hid ⟨HW.out.os,HW.out.tape,HW.out.output,HW.out.heap⟩⟩
    case rest =>
     obtain ⟨rfl,HV⟩:=hcut
     by_cases hin:p.1∈acc.map Prod.fst
     ·have HA3:=hid (show acc=risingF (l.take (k+1)) by rw [HA2.out]; unfold insI; rw [if_pos hin])
      rw [decide_eq_true hin]
      go_wp2_with fail
      go_roundw
      case rel=>exact ⟨k+1,acc,by omega,by go_num,HA3,hid (HO1.out.kept (HV.out.below _) (Nat.le_refl _)),hid (HB1.out.trans (HV.out.below _))⟩
      case measure=>simp [Go.RowKit.intOf]; omega
     ·have HA3:=hid (show acc.take j++p :: acc.drop j=risingF (l.take (k+1)) by rw [HA2.out]; unfold insI; rw [if_neg hin,← HJ.out])
      rw [decide_eq_false hin]
      have HOc:=hid (HO1.out.kept (HV.out.below _) (Nat.le_refl _))
      have HBc:=hid (HB1.out.trans (HV.out.below _))
      have hbc:=HBc.out.size
      have ro:=alloc_rowV wc 104 [.int .u64 0,.int .u64 0]
      have hnews : ∀j u,([.int .u64 0,.int .u64 0]:List Value)[j]?=some u→(wc.alloc (.cells #[.int .u64 0,.int .u64 0] 104)).cell? ((⟨wc.heap.size,0,none⟩:Addr).add j)=some u:=fun j u hj=>by
       rw [add_plain]
       exact ro.has.cellAt hj
      have hones : ∀u∈([.int .u64 0,.int .u64 0]:List Value),u.oneCell'=true:=by simp [Value.oneCell']
      have hal1:=(Below.refl wc.heap.size wc).alloc (Nat.le_refl _) (.cells #[.int .u64 0,.int .u64 0] 104)
      have HO2:=HOc.out.kept hal1 (Nat.le_refl _)
      have hsz:(wc.alloc (.cells #[.int .u64 0,.int .u64 0] 104)).heap.size=wc.heap.size+1:=World.size_alloc ..
      go_upto_region 10 with (at_builtin; refine wpList_append_own_at _ rfl _ _ 83 rfl w.heap.size 104 i0 (.agg #[.int .u64 0,.int .u64 0]) 2 16 Tryz.underlying83 hi hz0 hz1 hz2 rfl (by decide) (.slice G acc.length cap) acc.length (ivs acc) rfl HO2 ⟨wc.heap.size,0,none⟩ 1 1 [.int .u64 0,.int .u64 0] rfl rfl hnews hones (by unfold maxLen; omega) (by omega) (by omega) ?_; intro v' w5 hown' hgrow _ hblk; obtain ⟨g',cap',rfl⟩:=ownsRow_succ hown'; have HOW:=hid hown'; have HGR:=hid hgrow; clear hown' hgrow)
      have HO5:=hid (show OwnJ w5 w.heap.size (.slice (some ⟨g',0,none⟩) (acc.length+1) cap') (acc ++ [(0,0)]) by
       unfold OwnJ
       rw [List.length_append,ivs_append]
       exact HOW.out)
      obtain ⟨_,hg5,cur5,_,hc5,hm5,_,_⟩:=HO5.out.opened
      unfold maxLen at hm5
      clear HOW
      clear hnews hones ro HO2 hal1
      have HO6:=hid (show OwnJ w5.drew w.heap.size (.slice (some ⟨g',0,none⟩) (acc.length+1) cap') (acc ++ [(0,0)]) from HO5.out.same fun _ _ _=>rfl)
      obtain ⟨xa,hsa,hxa,hxb⟩:=items_tail g' (acc.length+1) cap' (j+1) (by omega) hc5 (by unfold maxLen; omega) ((j:Int)+1) (by omega)
      obtain ⟨xb,hsb,hxc,_⟩:=items_tail g' (acc.length+1) cap' j (by omega) hc5 (by unfold maxLen; omega) (j:Int) rfl
      have hxc2:xb=j*2:=hxc (by omega)
      subst hxc2
      have hcopy : ∃w6,(Builtin.copy_ #[83,83] 3 #[.slice (some ⟨g',xa,none⟩) (acc.length-j) (cap'-(j+1)),.slice (some ⟨g',j*2,none⟩) (acc.length+1-j) (cap'-j)]).run Tryz.prog w5.drew = .ok (goInt ((acc.length-j:Nat):Int)) w6 ∧
        (∃y,OwnJ w6 w.heap.size (.slice (some ⟨g',0,none⟩) (acc.length+1) cap') (acc.take j++y :: acc.drop j))∧w6.os=w5.os∧w6.tape=w5.tape∧w6.output=w5.output∧w6.heap.size=w5.heap.size ∧ ∀k,k≠g'→w6.heap[k]?=w5.heap[k]?:=by
       rcases Nat.lt_or_ge j acc.length with q | q
       ·exact HO6.out.shift hj _ _ _ _ _ _ _ (hxa (by omega)) rfl (by omega) rfl
       ·have e:j=acc.length:=by omega
        refine ⟨w5.drew,?_,⟨(0,0),?_⟩,rfl,rfl,rfl,rfl,fun _ _=>rfl⟩
        ·rw [show acc.length-j=0 by omega]
         exact HO6.out.shift0 _ _ _ _ _ _ (by omega)
        ·rw [e,List.take_length,List.drop_length]
         exact HO6.out
      obtain ⟨w6,hcopy,⟨y,HY⟩,W6⟩:=hcopy
      have HC:=hid hcopy
      have HY6:=hid HY
      have HW6:=hid W6
      clear hcopy HY W6 hxa hxc hxb
      have hC:=HC.out
      have hjt:(acc.take j).length=j:=by rw [List.length_take]; omega
      obtain ⟨⟨v0,cv0⟩,⟨v1,cv1⟩,fr0,fr1,hput⟩:=HY6.out.put p hjt
      have HPUT:=hid hput
      have hwc:wc.heap.size=wz.heap.size+1:=by
       rw [show wc.heap.size=w1.heap.size from congrArg Array.size HV.out.heap,← hw1]
       exact World.size_alloc ..
      have hgx : ¬wz.heap.size=g':=fun e=>by
       rcases hblk with q | q
       ·have:=(HO.out.lt (k:=g') q.symm).2
        omega
       ·have e2:g'=(wc.alloc (.cells #[.int .u64 0,.int .u64 0] 104)).heap.size:=Option.some.inj q
        omega
      have hgG : ¬some wz.heap.size=(Value.slice G acc.length cap).ownBlock:=fun e=>by
       have:=(HO.out.lt (k:=wz.heap.size) e.symm).2
       omega
      have hx6:RowV w6 wz.heap.size 104 [.int .u64 (p.1.toNat:Int),.int .u64 (p.2.toNat:Int)] :=
       (((HX.out.still HV.out).below (B:=wc.heap.size) (by omega) ((Below.refl wc.heap.size wc).alloc (Nat.le_refl _) _)).block (HGR.out.block wz.heap.size (by omega) (fun e=>hgG e))).block (HW6.out.2.2.2.2 wz.heap.size hgx)
      have cx0:=hx6.cellAt (i:=0) rfl
      have cx1:=hx6.cellAt (i:=1) rfl
      have HB6:=hid (show Below w.heap.size w ((w6.setCell ⟨g',j*2,none⟩ (.int .u64 (p.1.toNat:Int))).setCell ⟨g',j*2+1,none⟩ (.int .u64 (p.2.toNat:Int))) from by
       have b1:=HBc.out.trans (((Below.refl wc.heap.size wc).alloc (Nat.le_refl _) (.cells #[.int .u64 0,.int .u64 0] 104)).mono hbc)
       have b2:Below w.heap.size w w6:=b1.trans ⟨HW6.out.1.trans HGR.out.os,HW6.out.2.1.trans HGR.out.tape,HW6.out.2.2.1.trans HGR.out.output,by rw [HW6.out.2.2.2.1]; exact HGR.out.size,fun i hi=>(HW6.out.2.2.2.2 i (by omega)).trans (HGR.out.block i (by omega) (fun e=>by have:=(HO.out.lt (k:=i) e.symm).1; omega))⟩
       exact (b2.setCell (p:=⟨g',j*2,none⟩) hg5 _).setCell (p:=⟨g',j*2+1,none⟩) hg5 _)
      have hji:(j:Int)<(acc.length:Int)+1:=by omega
      clear hx6 hput
      go_region
      go_wp2_with fail
      exact ⟨⟨k+1,acc.take j++p :: acc.drop j,by omega,by go_num,HA3,HPUT,HB6⟩,by simp [Go.RowKit.intOf]; omega⟩
  ·have HQ:=hid (show r=acc from by
    have h1:=HA.out
    rw [List.take_of_length_le (by rw [HL.out]; omega)] at h1
    rw [HR.out,← h1])
   go_wp2_with fail
   go_ret
   exact ⟨_,rfl,by rw [HQ.out]; exact HO.out,HB.out⟩
end Go.Proofs.YtogchamogbendaaGreat.Bs
namespace Go.Proofs.YtogchamogbendaaGreat.Bs
open Go.RowKit Oct Mv Tl Pk Pl Go.Maps Go.ChangeMaps
open Lf (Nd Fit nodePage RowN ToldN Rises Kids)
def Held (x:BS) (z:Int):Prop := ∃b:Nat,z=(b:Int)∧(x.fr b).isSome=true
theorem held_new (x:BS) (b:Nat) (bs:List UInt8):Held (x.put b bs) (b:Int):=⟨b,rfl,by show (if b=b then some bs else x.fr b).isSome=true; rw [if_pos rfl]; rfl⟩
theorem put_held {n:Nat} {x:BS} (h:Fed n x) {b:Nat} (hb:x.q.Found b) {bs:List UInt8} (hl:bs.length=128) : ∀z,Held x z→nodeR (x.put b bs) n z=nodeR x n z∧Held (x.put b bs) z:=by
 rintro z ⟨k,rfl,hk⟩
 have hnone:=(h.put hb hl).2.1
 have hne:k≠b:=fun e=>by rw [e,hnone] at hk; cases hk
 have e:(x.put b bs).has k=x.has k:=by rw [has_put,if_neg hne]
 refine ⟨?_,k,rfl,?_⟩
 ·unfold nodeR
  rw [Int.toNat_natCast,e]
 ·show (if k=b then some bs else x.fr k).isSome=true
  rw [if_neg hne]
  exact hk
theorem Held.lt {n:Nat} {x:BS} (h:Fed n x) {z:Int} (k:Held x z):2≤z∧z<n:=by
 obtain ⟨b,rfl,hb⟩:=k
 obtain ⟨bs,e⟩:=Option.isSome_iff_exists.1 hb
 have:=h.fr b bs e
 omega
theorem Tr.at_root {nd:Int→NR} {P:Int→Prop} : ∀ {lv m:Nat} {z:Int} {l:List Itm},Tr nd P m lv z l→P z
 | 0,_,_,_,h=>h.1
 | _+1,_,_,_,h=>h.1
theorem heads_ris {ups:List Itm} {segs:List (List Itm)} (hl:segs.length=ups.length) (hh : ∀i,i<ups.length → ∃v r,segs.getD i []=((ups.getD i (0,0)).1,v) :: r) (hr:Ris segs.flatten):Ris ups:=by
 refine List.pairwise_iff_getElem.2 fun i j hi hj hij => ?_
 obtain ⟨v,r,e⟩:=hh i hi
 obtain ⟨v',r',e'⟩:=hh j hj
 have:=seg_above hij (by omega) hr (p:=((ups.getD i (0,0)).1,v)) (q:=((ups.getD j (0,0)).1,v')) (by rw [e]; exact List.mem_cons_self ..) (by rw [e']; exact List.mem_cons_self ..)
 simp only [List.getD_eq_getElem?_getD,List.getElem?_eq_getElem hi,List.getElem?_eq_getElem hj] at this
 exact this
structure Lev (x:BS) (n lv:Nat) (ups:List Itm) (segs:List (List Itm)) (l:List Itm):Prop where
 len:segs.length=ups.length
 flat:segs.flatten=l
 leaf:lv=0→segs=ups.map fun p => [p]
 up : ∀L,lv=L+1→Forest (nodeR x n) (Held x) 3 L ups segs∧(ups.map Prod.snd).Nodup
theorem Lev.mono {x y:BS} {n lv:Nat} {ups:List Itm} {segs:List (List Itm)} {l:List Itm} (h:Lev x n lv ups segs l) (k : ∀z,Held x z→nodeR y n z=nodeR x n z∧Held y z):Lev y n lv ups segs l :=
 ⟨h.len,h.flat,h.leaf,fun L e=>⟨(h.up L e).1.mono k,(h.up L e).2⟩⟩
theorem Lev.head {x:BS} {n lv:Nat} {ups:List Itm} {segs:List (List Itm)} {l:List Itm} (h:Lev x n lv ups segs l) : ∀i,i<ups.length → ∃v r,segs.getD i []=((ups.getD i (0,0)).1,v) :: r:=by
 intro i hi
 cases lv with
 | zero =>
  refine ⟨(ups.getD i (0,0)).2,[],?_⟩
  rw [h.leaf rfl,List.getD_eq_getElem?_getD,List.getElem?_map,List.getD_eq_getElem?_getD,List.getElem?_eq_getElem hi]
  rfl
 | succ L=>exact ((h.up L rfl).1.each i hi).2
theorem Lev.ris {x:BS} {n lv:Nat} {ups:List Itm} {segs:List (List Itm)} {l:List Itm} (h:Lev x n lv ups segs l) (hr:Ris l):Ris ups:=heads_ris h.len h.head (by rw [h.flat]; exact hr)
theorem mem_piece {α:Type} {l:List α} {a k:Nat} {p:α} (h:p∈(l.drop a).take k):p∈l:=List.mem_of_mem_drop (List.mem_of_mem_take h)
theorem piece_sub {α:Type} (l:List α) (a k:Nat):((l.drop a).take k).Sublist l:=(List.take_sublist _ _).trans (List.drop_sublist _ _)
theorem Lev.fit {x:BS} {n lv:Nat} {ups:List Itm} {segs:List (List Itm)} {l:List Itm} (h:Lev x n lv ups segs l) (hf:Fed n x) (hr:Ris l) {a k:Nat} (ha:a+k≤ups.length) (h0:0<k) (h7:k≤7) :
  Fit (decide (lv=0)) (((ups.drop a).take k).map Prod.fst) (((ups.drop a).take k).map Prod.snd):=by
 have hl:((ups.drop a).take k).length=k:=by rw [List.length_take,List.length_drop]; omega
 refine ⟨by rw [List.length_map,hl]; exact h7,by rw [List.length_map,List.length_map],List.pairwise_map.2 (List.Pairwise.sublist (piece_sub ..) (h.ris hr)),?_⟩
 cases lv with
 | zero=>exact .inl rfl
 | succ L =>
  obtain ⟨F,hn⟩:=h.up L rfl
  refine .inr ⟨by rw [List.length_map,hl]; exact h0,fun v hv => ?_,List.Nodup.sublist (List.Sublist.map _ (piece_sub ..)) hn⟩
  obtain ⟨p,hp,rfl⟩:=List.mem_map.1 hv
  obtain ⟨i,hi,rfl⟩:=List.mem_iff_getElem.1 (mem_piece hp)
  have h1:=((F.each i hi).1.at_root).lt hf
  rw [List.getD_eq_getElem?_getD,List.getElem?_eq_getElem hi] at h1
  have h2:=hf.hi
  have h3:(2:Int)≤(ups[i].2.toNat:Int)∧(ups[i].2.toNat:Int)<n:=h1
  omega
theorem flat_ones (l:List Itm):(l.map fun p => [p]).flatten=l:=by
 induction l with
 | nil=>rfl
 | cons a r ih=>rw [List.map_cons,List.flatten_cons,ih]; rfl
theorem Lev.node {x:BS} {n lv:Nat} {ups:List Itm} {segs:List (List Itm)} {l:List Itm} (h:Lev x n lv ups segs l) {a k:Nat} (hk:0<k) (ha:a+k≤ups.length) {z:Int} (hz:Held x z)
  (hd:nodeR x n z=⟨decide (lv=0),((ups.drop a).take k).map Prod.fst,((ups.drop a).take k).map Prod.snd,0⟩) :
  Tr (nodeR x n) (Held x) k lv z ((segs.drop a).take k).flatten ∧ ∃v r,((segs.drop a).take k).flatten=((ups.getD a (0,0)).1,v) :: r:=by
 cases lv with
 | zero =>
  have e:((segs.drop a).take k).flatten=(ups.drop a).take k:=by
   rw [h.leaf rfl,← List.map_drop,← List.map_take,flat_ones]
  rw [e]
  exact leaf_tree hk ha hz hd
 | succ L=>exact (h.up L rfl).1.node hk ha hz hd
def tot (n:Nat):Nat:=if h:7<n then manyN n+tot (manyN n) else 1
termination_by n
decreasing_by exact many_less h
theorem tot_more {n:Nat} (h:7<n):tot n=manyN n+tot (manyN n):=by rw [tot,dif_pos h]
theorem tot_one {n:Nat} (h:n≤7):tot n=1:=by rw [tot,dif_neg (by omega)]
theorem many_tot {n:Nat} (h:1≤n):manyN n≤tot n:=by
 rcases Nat.lt_or_ge 7 n with k | k
 ·rw [tot_more k]; omega
 ·rw [tot_one k,(many_one h).2 k]; exact Nat.le_refl _
theorem tot_le (n:Nat):tot n≤n+1:=by
 induction n using Nat.strongRecOn with
 | _ n ih =>
  rcases Nat.lt_or_ge 7 n with h | h
  ·rw [tot_more h]
   have:=ih (manyN n) (many_less h)
   unfold manyN at *
   omega
  ·rw [tot_one h]; omega
def mostM (N:Nat):Nat:=if manyN N=1 then N else 3
theorem b64 {b:Nat} (h:b<4096):(UInt64.ofNat b).toNat=b:=by exact UInt64.toNat_ofNat_of_lt' (by show b<18446744073709551616; omega)
structure Mid (x:BS) (n lv:Nat) (ups:List Itm) (segs:List (List Itm)) (l:List Itm) (i:Nat) (y:BS) (ups2:List Itm):Prop where
 fed:Fed n y
 lev:Lev y n lv ups segs l
 room:need y.n+tot ups.length≤y.q.room+i
 row : ∃segs2,Forest (nodeR y n) (Held y) (mostM ups.length) lv ups2 segs2∧segs2.flatten=(segs.take (cutN ups.length i)).flatten∧(ups2.map Prod.snd).Nodup
 len:ups2.length=i
 pos:min (lv+1) 2≤ups.length
 one:lv=0→(i=0→y=x)∧(i=1→ups.length≤7 → ∃b,x.q.Found b∧y=x.put b (nodePage true (ups.map Prod.fst) (ups.map Prod.snd)) ∧ ∀p∈ups2,p.2.toNat=b)
theorem Mid.fit {x:BS} {n lv:Nat} {ups:List Itm} {segs:List (List Itm)} {l:List Itm} {i:Nat} {y:BS} {ups2:List Itm} (h:Mid x n lv ups segs l i y ups2) (hr:Ris l) (hi:i<manyN ups.length) :
  Fit (decide (lv=0)) (((ups.drop (cutN ups.length i)).take (cutN ups.length (i+1)-cutN ups.length i)).map Prod.fst) (((ups.drop (cutN ups.length i)).take (cutN ups.length (i+1)-cutN ups.length i)).map Prod.snd)∧need y.n<y.q.room:=by
 have hN:1≤ups.length:=by have:=h.pos; omega
 have s:=cut_step (i:=i) hN
 have e:=cut_le (i:=i+1) hN (by omega)
 have m:=many_tot hN
 have r:=h.room
 exact ⟨h.lev.fit h.fed hr (by omega) (by omega) (by omega),by omega⟩
theorem Mid.step {x:BS} {n lv:Nat} {ups:List Itm} {segs:List (List Itm)} {l:List Itm} {i:Nat} {y:BS} {ups2:List Itm} (h:Mid x n lv ups segs l i y ups2) (hr:Ris l) (hi:i<manyN ups.length) {b:Nat} (hb:y.q.Found b)
  {a k:Nat} (ha:a=cutN ups.length i) (hk:k=cutN ups.length (i+1)-cutN ups.length i) :
  Mid x n lv ups segs l (i+1) (y.put b (nodePage (decide (lv=0)) (((ups.drop a).take k).map Prod.fst) (((ups.drop a).take k).map Prod.snd))) (ups2 ++ [((ups.getD a (0,0)).1,UInt64.ofNat b)]):=by
 have hN:1≤ups.length:=by have:=h.pos; omega
 have hfit:=(h.fit hr hi).1
 rw [← hk,← ha] at hfit
 have hlen:(nodePage (decide (lv=0)) (((ups.drop a).take k).map Prod.fst) (((ups.drop a).take k).map Prod.snd)).length=128:=Lf.length_nodePage _ _ _ hfit.2.1 hfit.1
 obtain ⟨p1,p2,p3,p4,p5⟩:=h.fed.put hb hlen
 have hm:=put_held h.fed hb hlen
 have hnode:=nodeR_yes (y.put b (nodePage (decide (lv=0)) (((ups.drop a).take k).map Prod.fst) (((ups.drop a).take k).map Prod.snd))) n (i:=b) p3 p4 hfit (by rw [has_put,if_pos rfl])
 have hnew:=held_new y b (nodePage (decide (lv=0)) (((ups.drop a).take k).map Prod.fst) (((ups.drop a).take k).map Prod.snd))
 have s:=cut_step (i:=i) hN
 have e:=cut_le (i:=i+1) hN (by omega)
 have hn4:=h.fed.hi
 have lev':=h.lev.mono hm
 obtain ⟨t1,t2⟩:=lev'.node (a:=a) (k:=k) (by omega) (by omega) hnew hnode
 obtain ⟨segs2,f,fl,nd⟩:=h.row
 have f':=f.mono hm
 have hmk:mostM ups.length≤k:=by
  unfold mostM
  split
  ·rename_i q
   have i0:i=0:=by omega
   subst i0
   have:=cut_end hN
   rw [q] at this
   rw [hk,this,cut_zero]
   omega
  ·have:=many_pos hN
   have:=s.2.2 (by omega)
   omega
 refine ⟨p1,lev',?_,⟨segs2 ++ [((segs.drop a).take k).flatten],?_,?_,?_⟩,by rw [List.length_append,h.len]; rfl,h.pos,fun e0=>⟨fun q=>by omega,fun q1 q2 => ?_⟩⟩
 ·have r:=h.room
  have e1:(y.put b (nodePage (decide (lv=0)) (((ups.drop a).take k).map Prod.fst) (((ups.drop a).take k).map Prod.snd))).n=y.n:=by rw [p1.xn,h.fed.xn]
  rw [e1]
  omega
 ·exact f'.push (by rw [b64 (by omega)]; exact t1.less hmk) t2
 ·rw [List.flatten_append,fl,List.flatten_cons,List.flatten_nil,List.append_nil,← ha,take_piece,show a+k=cutN ups.length (i+1) by omega]
 ·rw [List.map_append]
  refine List.nodup_append.2 ⟨nd,by simp,fun u hu v hv => ?_⟩
  obtain ⟨p,hp,rfl⟩:=List.mem_map.1 hu
  obtain ⟨j,hj,rfl⟩:=List.mem_iff_getElem.1 hp
  have h1:=(f.each j hj).1.at_root
  rw [List.getD_eq_getElem?_getD,List.getElem?_eq_getElem hj] at h1
  obtain ⟨c,hc,hs⟩:=h1
  intro q
  have hv2:v=UInt64.ofNat b:=by simpa using hv
  have h3:ups2[j].2.toNat=b:=by rw [q,hv2,b64 (by omega)]
  have h4:c=b:=by
   have h5:(ups2[j].2.toNat:Int)=(c:Int):=hc
   omega
  rw [h4,p2] at hs
  cases hs
 ·have i0:i=0:=by omega
  subst i0
  have hy:=(h.one e0).1 rfl
  have hm1:=(many_one hN).2 q2
  have ec:=cut_end hN
  rw [hm1] at ec
  rw [cut_zero] at ha hk
  rw [show 0+1=1 from rfl,ec] at hk
  have hu:ups2 = []:=List.eq_nil_of_length_eq_zero h.len
  refine ⟨b,by rw [← hy]; exact hb,?_,fun p hp => ?_⟩
  ·rw [← hy,e0,ha,hk,List.drop_zero,Nat.sub_zero,List.take_length]
   rfl
  ·rw [hu,List.nil_append,List.mem_singleton] at hp
   rw [hp,b64 (by omega)]
theorem Mid.done {x:BS} {n lv:Nat} {ups:List Itm} {segs:List (List Itm)} {l:List Itm} {y:BS} {ups2:List Itm} (h:Mid x n lv ups segs l (manyN ups.length) y ups2) (h1:7<ups.length) :
  ∃segs2,Mid x n (lv+1) ups2 segs2 l 0 y []∧ups2.length=manyN ups.length:=by
 obtain ⟨segs2,f,fl,nd⟩:=h.row
 have hm : ¬manyN ups.length=1:=fun e=>by have:=(many_one (by omega)).1 e; omega
 have e3:mostM ups.length=3:=if_neg hm
 rw [e3] at f
 rw [cut_end (by omega),← h.lev.len,List.take_length,h.lev.flat] at fl
 have hp:=many_pos (n:=ups.length) (by omega)
 refine ⟨segs2,⟨h.fed,⟨f.len,fl,fun e=>by omega,fun L e => ?_⟩,?_,⟨[],Forest.nil _ _ _ _,by rw [cut_zero]; rfl,List.nodup_nil⟩,rfl,?_,fun e=>by omega⟩,h.len⟩
 ·obtain rfl:lv=L:=by omega
  exact ⟨f,nd⟩
 ·rw [h.len]
  have:=h.room
  rw [tot_more h1] at this
  omega
 ·rw [h.len]; omega
theorem Mid.root {x:BS} {n lv:Nat} {ups:List Itm} {segs:List (List Itm)} {l:List Itm} {y:BS} {ups2:List Itm} (h:Mid x n lv ups segs l (manyN ups.length) y ups2) (h1:ups.length≤7) :
  ∃k v,ups2 = [(k,v)]∧Tr (nodeR y n) (Held y) (min (lv+1) 2) lv (v.toNat:Int) l:=by
 obtain ⟨segs2,f,fl,nd⟩:=h.row
 have hN:1≤ups.length:=by have:=h.pos; omega
 have hm:=(many_one hN).2 h1
 have hl:=h.len
 rw [hm] at hl
 obtain ⟨⟨k,v⟩,rfl⟩:=List.length_eq_one_iff.1 hl
 obtain ⟨s,rfl⟩:=List.length_eq_one_iff.1 (f.len.trans hl)
 rw [cut_end hN,← h.lev.len,List.take_length,h.lev.flat] at fl
 have hs:s=l:=by rw [← fl]; simp
 subst hs
 have:=(f.each 0 (by simp)).1
 have e3:mostM ups.length=ups.length:=if_pos hm
 rw [e3] at this
 exact ⟨k,v,rfl,(show Tr (nodeR y n) (Held y) ups.length lv (v.toNat:Int) s from this).less h.pos⟩
theorem mid_start {x:BS} {n:Nat} (hf:Fed n x) {l:List Itm} (hl:1≤l.length) (hr:need x.n+tot l.length≤x.q.room):Mid x n 0 l (l.map fun p => [p]) l 0 x [] :=
 ⟨hf,⟨by rw [List.length_map],flat_ones l,fun _=>rfl,fun L e=>by omega⟩,by omega,⟨[],Forest.nil _ _ _ _,by rw [cut_zero]; rfl,List.nodup_nil⟩,rfl,by omega,fun _=>⟨fun _=>rfl,fun e=>by omega⟩⟩
end Go.Proofs.YtogchamogbendaaGreat.Bs
namespace Go.Proofs.YtogchamogbendaaGreat.Bs
open Lib (hid)
open Go.RowKit Oct Mv Tl Pk Pl Go.Maps Go.ChangeMaps
open Lf (Nd Fit nodePage RowN ToldN OwnN Rises step_app_num)
open No (atR at_any)
def lenV:Value→Nat
 | .slice _ n _=>n
 | _=>0
section
variable {Pr:Nat→Prop} {A:Adr} {x:BS} {w:World}
theorem BAt.grew {w':World} (h:BAt Pr w A x) {base:Nat} {v:Value} {es:List Itm} (ho:OwnJ w base v es) (hg:w.grownBy w' v.ownBlock):BAt Pr w' A x:=by
 rcases ho.2 with ⟨rfl,_⟩ | ⟨g,cap,cur,rfl,_,hgg,_⟩
 ·exact h.below ⟨hg.os,hg.tape,hg.output,hg.size,fun k hk=>hg.block k hk (fun e=>by cases e)⟩
 ·exact h.apart (X:=g) (T := 104) (vs:=cur.toList) hgg ⟨hg.os,hg.tape,hg.output,hg.size,fun k hk hn=>hg.block k hk (fun e=>hn (by rw [List.mem_singleton]; exact Option.some.inj e))⟩ (by decide)
def Built (Pr:Nat→Prop) (A:Adr) (x:BS) (n:Nat) (l:List Itm) (N:Nat) (w:World) (b:Nat) (w':World):Prop :=
 ∃(y:BS) (lv:Nat),Fed n y∧Held y (b:Int)∧Tr (nodeR y n) (Held y) (min (lv+1) 2) lv (b:Int) l∧lv+1=upH N∧(N≤7→x.q.Found b∧y=x.put b (nodePage true (l.map Prod.fst) (l.map Prod.snd)))∧BAt Pr w' A y∧ButL w w' A.list
set_option maxHeartbeats 4000000 in
theorem build_any {n:Nat} (hf:Fed n x) (h:BAt Pr w A x) (l:List Itm) {LA:Option Addr} {N c:Nat} (hrow:IRow w LA N c l) (hN:1≤N∧N≤200) (hr:need x.n+tot N≤x.q.room) (hris:Ris l) (hsep : ∀b o,LA=some ⟨b,o,none⟩→b∉A.list) :
  Calls Tryz.prog 51 #[.pointer (some ⟨A.b,0,none⟩),.slice LA N c] w fun e w' => ∃b:Nat,e = .returned (.tuple #[.int .i64 (b:Int),.bool true])∧Built Pr A x n l N w b w':=by
 have HF:=hid hf
 have H:=hid h
 have HRIS:=hid hris
 have hel:=hrow.el
 have HST:=hid (mid_start hf (l:=l) (by omega) (by rw [hel]; exact hr))
 have HROW0:=hid hrow
 have HSEP0:=hid hsep
 have HAL:=hid h.list_lt
 have hN0 : ¬((N:Int)=0):=by omega
 have HEL:=hid hel
 clear hf h hr hrow hris hsep hel
 go_enter Tryz.func51,Tryz.ntmps51
 go_wp2_with fail
 rw [show ((N:Int)==0)=false from beq_eq_false_iff_ne.mpr (by omega)]
 go_loopw [1,6] (fun a lv wr => ∃(lv':Nat) (ups:List Itm) (segs:List (List Itm)) (y:BS) (LA':Option Addr) (N' c':Nat),lv = .int .i64 (lv':Int)∧a = .slice LA' N' c'∧Hid (IRow wr LA' N' c' ups)∧Hid (∀b o,LA'=some ⟨b,o,none⟩→b∉A.list)∧Hid (Mid x n lv' ups segs l 0 y [])∧Hid (lv'+upH N'=upH N)∧1≤N'∧N'≤200∧lv'≤200∧Hid (BAt Pr wr A y)∧Hid (ButL w wr A.list)) (fun a _ _=>lenV a)
 case atStart=>exact ⟨0,l,_,x,LA,N,c,rfl,rfl,HROW0,HSEP0,HST,hid (by omega),by omega,by omega,by omega,H,hid (ButL.refl _ _)⟩
 case round =>
  obtain ⟨lv,ups,segs,y0,LB,N1,c1,rfl,rfl,HROW,HSEP,HM0,HUP,hn1,hn2,hlv,HAT0,HBT0⟩:=hrel
  obtain ⟨wL,hwL⟩ : ∃q,q=wr:=⟨_,rfl⟩
  subst hwL
  obtain ⟨M,hM⟩ : ∃M,M=manyN N1:=⟨_,rfl⟩
  have hm:1≤M∧M≤29:=by rw [hM]; unfold manyN; omega
  have hdiv:((N1:Int)+7-1)/7=(M:Int):=by rw [hM]; unfold manyN; omega
  have HMM:=hid hM
  have hsL:=HBT0.out.size
  clear hM
  go_wp2_with fail
  rw [hdiv]
  go_loopw [8,26] (fun up i wz => ∃(i':Nat) (ups2:List Itm) (y:BS),i = .int .i64 (i':Int)∧i'≤M∧Hid (Mid x n lv ups segs l i' y ups2)∧Hid (OwnJ wz wL.heap.size up ups2)∧Hid (BAt Pr wz A y)∧Hid (ButL wL wz A.list)) (fun _ i _=>M-(Go.RowKit.intOf i).toNat)
  case atStart=>exact ⟨0,[],y0,rfl,Nat.zero_le _,HM0,hid (OwnJ.nil _ _),HAT0,hid (ButL.refl _ _)⟩
  case round =>
   obtain ⟨i,ups2,y,rfl,hi,HM,HO,HAT,HBT⟩:=hrel
   obtain ⟨wz,hwz⟩ : ∃q,q=wr:=⟨_,rfl⟩
   subst hwz
   by_cases hlt:i<M
   ·have hul:ups.length=N1:=HROW.out.el
    have hilt:i<manyN ups.length:=by rw [hul,← HMM.out]; exact hlt
    have hcs:=cut_step (n:=N1) (i:=i) hn1
    have hce:=cut_le (n:=N1) (i:=i+1) hn1 (by rw [← HMM.out]; omega)
    obtain ⟨ca,ha⟩ : ∃ca,ca=cutN N1 i:=⟨_,rfl⟩
    obtain ⟨ck,hK⟩ : ∃ck,ck=cutN N1 (i+1)-ca:=⟨_,rfl⟩
    have hq1:(i:Int)*(N1:Int)/(M:Int)=(ca:Int):=by rw [ha,HMM.out]; unfold cutN; norm_cast
    have hq2:((i:Int)+1)*(N1:Int)/(M:Int)=((ca+ck:Nat):Int):=by
     rw [show ca+ck=cutN N1 (i+1) by omega,HMM.out]
     unfold cutN
     norm_cast
    rw [← ha] at hcs
    have hKb:1≤ck∧ck≤7∧ca+ck≤N1:=by omega
    have HKA:=hid (show ca=cutN ups.length i∧ck=cutN ups.length (i+1)-cutN ups.length i by rw [hul,← ha]; exact ⟨rfl,hK⟩)
    have HFT:=hid (HM.out.fit HRIS.out hilt)
    rw [← HKA.out.2,← HKA.out.1] at HFT
    obtain ⟨bl,hbl⟩ : ∃b,b=decide (lv=0):=⟨_,rfl⟩
    have hb0:((lv:Int)==0)=bl:=by
     rw [hbl]
     by_cases e:lv=0
     ·rw [e]; rfl
     ·rw [decide_eq_false e]; exact beq_eq_false_iff_ne.mpr (by omega)
    rw [← hbl] at HFT
    have HBL:=hid hbl
    obtain ⟨bL,oL,rfl,hL⟩ : ∃b o,LB=some ⟨b,o,none⟩∧HasV wL b o (ivs ups):=by
     rcases HROW.out.es with q | q
     ·have:=ivs_nil_iff.1 q
      rw [this] at hul
      simp at hul
      omega
     ·exact q
    have hbLL:bL<wL.heap.size:=World.block_lt_of_cell? wL _ (hL 0 (by rw [length_ivs,hul]; omega))
    have HL:=hid (hL.block (HBT.out.block bL hbLL (HSEP.out bL oL rfl)))
    have hblz:bL<wz.heap.size:=Nat.lt_of_lt_of_le hbLL HBT.out.size
    have hkc:N1≤c1:=HROW.out.kc
    have hkm:c1≤maxLen:=HROW.out.km
    unfold maxLen at hkm
    have HUL:=hid hul
    have HILT:=hid hilt
    clear hL hbl ha hK hul hilt hcs hce
    have hmul:i*N1≤29*200:=Nat.mul_le_mul (by omega) hn2
    have hmul2:(i+1)*N1≤29*200:=Nat.mul_le_mul (by omega) hn2
    have hw1:IntKind.i64.wrap ((i:Int)*(N1:Int))=(i:Int)*(N1:Int):=wrap_i64 (by omega) (by omega)
    have hp2:((i:Int)+1)*(N1:Int)=(((i+1)*N1:Nat):Int):=by rw [Int.natCast_mul]; rfl
    have hw2:IntKind.i64.wrap (((i:Int)+1)*(N1:Int))=((i:Int)+1)*(N1:Int):=by rw [hp2]; exact wrap_i64 (by omega) (by omega)
    clear hp2
    have ht1:Int.tdiv ((i:Int)*(N1:Int)) (M:Int)=(ca:Int):=by rw [Int.tdiv_eq_ediv_of_nonneg (by omega)]; exact hq1
    have ht2:Int.tdiv (((i:Int)+1)*(N1:Int)) (M:Int)=((ca+ck:Nat):Int):=by rw [Int.tdiv_eq_ediv_of_nonneg (by rw [show ((i:Int)+1)*(N1:Int)=(((i+1)*N1:Nat):Int) by rw [Int.natCast_mul]; rfl]; omega)]; exact hq2
    have hmf:((M:Int)==0)=false:=beq_eq_false_iff_ne.mpr (by omega)
    have hin:(i:Int)<(M:Int):=by omega
    have hm0 : ¬((M:Int)=0):=by omega
    go_upto_region 11 with (fail)
    go_quiet (fail)
    rw [show ca+ck-ca=ck by omega]
    clear hq1 hq2 ht1 ht2 hmul hmul2 hw1 hw2 hmf hm0 hb0
    obtain ⟨pc,hpc⟩ : ∃p,p=(ups.drop ca).take ck:=⟨_,rfl⟩
    have hpl:pc.length=ck:=by rw [hpc,List.length_take,List.length_drop,HUL.out]; omega
    have hpg : ∀(j:Nat) (g:j<pc.length),∃g2:ca+j<ups.length,pc[j]=ups[ca+j]:=fun j g=>by
     have g2:ca+j<ups.length:=by rw [HUL.out]; omega
     refine ⟨g2,?_⟩
     subst hpc
     rw [List.getElem_take,List.getElem_drop]
    rw [← hpc] at HFT
    have HPC:=hid hpc
    have HPL:=hid hpl
    have HPG:=hid hpg
    clear hpc hpl hpg
    have b0:=(Below.refl wz.heap.size wz).alloc (Nat.le_refl _) (.cells #[.bool bl,.slice none 0 0,.slice none 0 0] 107)
    have r0:=alloc_rowV wz 107 [.bool bl,.slice none 0 0,.slice none 0 0]
    have s0:(wz.alloc (.cells #[.bool bl,.slice none 0 0,.slice none 0 0] 107)).heap.size=wz.heap.size+1:=World.size_alloc ..
    have st:=Still.drewN (wz.alloc (.cells #[.bool bl,.slice none 0 0,.slice none 0 0] 107)) nq
    obtain ⟨X10,hX10⟩ : ∃X,X=wz.heap.size:=⟨_,rfl⟩
    have R10:=hid (r0.still st)
    have HB1:=hid (b0.trans (st.below wz.heap.size))
    have S1:=hid (show ((wz.alloc (.cells #[.bool bl,.slice none 0 0,.slice none 0 0] 107)).drewN nq).heap.size=X10+1 by rw [hX10,← s0]; exact congrArg Array.size st.heap)
    rw [← hX10] at R10 hblz ⊢
    have HX10:=hid hX10
    have HL1:=hid (HL.out.below (by rw [← hX10]; exact hblz) HB1.out)
    clear b0 r0 s0 st hX10
    generalize (wz.alloc (.cells #[.bool bl,.slice none 0 0,.slice none 0 0] 107)).drewN nq=w1 at *
    go_wp2_with fail
    go_loopw [48] (fun j wy => ∃(k:Nat) (X Y:Value),j = .int .i64 (k:Int)∧k≤ck∧Hid (Grow w1 (X10+1) X10 bl X Y ((pc.take k).map Prod.fst) ((pc.take k).map Prod.snd) wy)) (fun j _=>ck-(Go.RowKit.intOf j).toNat)
    case atStart=>exact ⟨0,_,_,rfl,Nat.zero_le _,hid ⟨⟨ownN_nil w1 _,ownN_nil w1 _,fun k e=>(by cases e),Below.refl _ _,by rw [S1.out]; exact Nat.le_refl _,by omega⟩,R10.out,by omega⟩⟩
    case round =>
     obtain ⟨k,X,Y,rfl,hk,HG⟩:=hrel
     by_cases hkn:k<ck
     ·have hkl:k<pc.length:=by rw [HPL.out]; exact hkn
      obtain ⟨hau,hpe⟩:=HPG.out k hkl
      obtain ⟨wv,hwv⟩ : ∃q,q=wr:=⟨_,rfl⟩
      subst hwv
      obtain ⟨kx,hkx⟩ : ∃y,y=pc[k].1:=⟨_,rfl⟩
      obtain ⟨vx,hvx⟩ : ∃y,y=pc[k].2:=⟨_,rfl⟩
      have HLv:=hid (HL1.out.below hblz HG.out.two.bw)
      have cl0:=HLv.out.cellAt (ivs_key ups (ca+k) hau)
      have cl1:=HLv.out.cellAt (ivs_val ups (ca+k) hau)
      rw [← hpe,← hkx] at cl0
      rw [← hpe,← hvx] at cl1
      rw [show oL+2*(ca+k)=oL+ca*2+k*2 by omega] at cl0
      rw [show oL+(2*(ca+k)+1)=oL+ca*2+k*2+1 by omega] at cl1
      have HTK:=hid (show (pc.take (k+1)).map Prod.fst=(pc.take k).map Prod.fst ++ [kx]∧(pc.take (k+1)).map Prod.snd=(pc.take k).map Prod.snd ++ [vx] by
       rw [List.take_succ_eq_append_getElem hkl,List.map_append,List.map_append,hkx,hvx]
       exact ⟨rfl,rfl⟩)
      have hki:(k:Int)<(ck:Int):=by omega
      have hk0:(0:Int)≤(k:Int):=by omega
      obtain ⟨ks,hks⟩ : ∃q,q=(pc.take k).map Prod.fst:=⟨_,rfl⟩
      obtain ⟨vs,hvs⟩ : ∃q,q=(pc.take k).map Prod.snd:=⟨_,rfl⟩
      rw [← hks,← hvs] at HG HTK
      have HKL:=hid (show ks.length=k∧vs.length=k∧k<7 by rw [hks,hvs,List.length_map,List.length_map,List.length_take]; omega)
      have b2:=(Below.refl wv.heap.size wv).alloc (Nat.le_refl _) (.cells #[.int .u64 (kx.toNat:Int),.int .u64 (vx.toNat:Int)] 104)
      have r2:=alloc_rowV wv 104 [.int .u64 (kx.toNat:Int),.int .u64 (vx.toNat:Int)]
      clear hkx hvx hks hvs hkl hpe hau
      go_upto_region 14 with (fail)
      obtain ⟨X12,hX12⟩ : ∃X,X=wv.heap.size:=⟨_,rfl⟩
      have HTW:=hid (HG.out.two.below b2)
      have HR10:=hid (HG.out.row.below HG.out.row.lt b2)
      have HNE:=hid (show X12≠X10 by have:=HG.out.row.lt; omega)
      have HK12:=hid (show Kp3 (wv.alloc (.cells #[.int .u64 (kx.toNat:Int),.int .u64 (vx.toNat:Int)] 104)) X Y X12 104 [.int .u64 (kx.toNat:Int),.int .u64 (vx.toNat:Int)] by rw [hX12]; exact Kp3.new HG.out.two _ _)
      rw [← hX12]
      clear b2 r2 hX12 cl0 cl1 HLv
      generalize wv.alloc (.cells #[.int .u64 (kx.toNat:Int),.int .u64 (vx.toNat:Int)] 104)=w2 at *
      have st:=(show Still w2 w2.drew from ⟨rfl,rfl,rfl,rfl⟩).below w2.heap.size
      have HTWd:=hid (HTW.out.below st)
      have HR10d:=hid (HR10.out.below HR10.out.lt st)
      have HK12d:=hid (HK12.out.below st)
      clear st
      refine Inv2.wp_region_inv (fun b a wy => ∃(z:Nat→Value) (z56:Value) (z57:Value) (z62:Value) (z63:Value),a=⟨(List.toArray (Value.pointer (some ⟨A.b,0,none⟩) :: Value.slice (some ⟨bL,oL,none⟩) N1 c1 :: undef :: undef :: u4 :: u5 :: Value.int IntKind.i64 ↑lv :: Value.int IntKind.i64 ↑M :: u8 :: Value.int IntKind.i64 ↑i :: Value.pointer (some ⟨X10,0,none⟩) :: undef :: Value.pointer (some ⟨X12,0,none⟩) :: u13 :: u14 :: Value.slice LA N c :: Value.int IntKind.i64 ↑N :: Value.bool false :: u18 :: u19 :: Value.slice (some ⟨bL,oL,none⟩) N1 c1 :: Value.int IntKind.i64 ↑N1 :: Value.int IntKind.i64 (↑N1+7) :: Value.int IntKind.i64 (↑N1+7-1) :: Value.int IntKind.i64 ↑M :: Value.int IntKind.i64 ↑M :: Value.int IntKind.i64 ↑i :: Value.bool true :: Value.int IntKind.i64 ↑i :: Value.int IntKind.i64 ↑lv :: Value.bool bl :: Value.agg #[Value.bool bl,Value.slice none 0 0,Value.slice none 0 0] :: Value.slice (some ⟨bL,oL,none⟩) N1 c1 :: Value.int IntKind.i64 ↑i :: Value.slice (some ⟨bL,oL,none⟩) N1 c1 :: Value.int IntKind.i64 ↑N1 :: Value.int IntKind.i64 (↑i * ↑N1) :: Value.int IntKind.i64 ↑M :: Value.int IntKind.i64 ↑ca :: Value.int IntKind.i64 ↑i :: Value.int IntKind.i64 (↑i+1) :: Value.slice (some ⟨bL,oL,none⟩) N1 c1 :: Value.int IntKind.i64 ↑N1 :: Value.int IntKind.i64 ((↑i+1) * ↑N1) :: Value.int IntKind.i64 ↑M :: Value.int IntKind.i64 (↑ca + ↑ck) :: Value.slice (some ⟨bL,oL+ca*2,none⟩) ck (c1-ca) :: Value.int IntKind.i64 ↑ck :: Value.int IntKind.i64 ↑k :: Value.bool true :: Value.pointer (some ⟨bL,oL+ca*2+k*2,none⟩) :: Value.agg #[Value.int IntKind.u64 ↑kx.toNat,Value.int IntKind.u64 ↑vx.toNat] :: (z 52) :: (z 53) :: (z 54) :: (z 55) :: z56 :: z57 :: (z 58) :: (z 59) :: (z 60) :: (z 61) :: z62 :: z63 :: (z 64) :: (z 65) :: u66 :: u67 :: u68 :: u69 :: u70 :: u71 :: u72 :: u73 :: u74 :: u75 :: u76 :: u77 :: u78 :: u79 :: u80 :: u81 :: u82 :: u83 :: u84 :: u85 :: u86 :: u87 :: u88 :: u89 :: u90 :: u91 :: u92 :: u93 :: [])),[]⟩∧Hid ((b 0=true→(z 52) = .pointer (some ⟨X10,1,none⟩))∧(b 1=true→(z 53)=X)∧(b 2=true→(z 54) = .pointer (some ⟨X12,0,none⟩))∧(b 3=true→(z 55) = .int .u64 (kx.toNat:Int))∧(b 6=true→(z 58) = .pointer (some ⟨X10,2,none⟩))∧(b 7=true→(z 59)=Y)∧(b 8=true→(z 60) = .pointer (some ⟨X12,1,none⟩))∧(b 9=true→(z 61) = .int .u64 (vx.toNat:Int))∧(b 12=true→(z 64) = .pointer (some ⟨X10,1,none⟩))∧(b 14=true→(z 65) = .pointer (some ⟨X10,2,none⟩)))∧Hid True∧Hid ((∃X' Y' ns ms a1 a2,Two w1 wy X10 (X10+1) X' Y' ns ms∧RowV wy X10 107 [.bool bl,a1,a2]∧Kp3 wy X' Y' X12 104 [.int .u64 (kx.toNat:Int),.int .u64 (vx.toNat:Int)]∧(b 5=false→X'=X∧ns=ks)∧(b 5=true→z57=X'∧(∃j c,X' = .slice (some ⟨j,0,none⟩) (ks.length+1) c)∧ns=ks ++ [kx])∧(b 11=false→Y'=Y∧ms=vs)∧(b 11=true→z63=Y'∧(∃j c,Y' = .slice (some ⟨j,0,none⟩) (vs.length+1) c)∧ms=vs ++ [vx])∧(b 4=true → ∃g,z56 = .slice (some ⟨g,0,none⟩) 1 1∧Kp3 wy X' Y' g 30 [.int .u64 (kx.toNat:Int)])∧(b 10=true → ∃g,z62 = .slice (some ⟨g,0,none⟩) 1 1∧Kp3 wy X' Y' g 30 [.int .u64 (vx.toNat:Int)])∧(b 13=false→a1=X)∧(b 13=true→a1=X')∧(b 15=false→a2=Y)∧(b 15=true→a2=Y'))∧(b 13=true→b 1=true∧b 5=true)∧(b 15=true→b 7=true∧b 11=true)∧(b 5=true→b 1=true∧b 4=true)∧(b 11=true→b 7=true∧b 10=true))) (by kernel_rfl) (by kernel_rfl) ?startD ?stepsD ?doneD
      case startD =>
       intro b hb
       refine ⟨fun s=>if s=52 then u52 else if s=53 then u53 else if s=54 then u54 else if s=55 then u55 else if s=58 then u58 else if s=59 then u59 else if s=60 then u60 else if s=61 then u61 else if s=64 then u64 else if s=65 then u65 else undef,u56,u57,u62,u63,rfl,hid ⟨?_,?_,?_,?_,?_,?_,?_,?_,?_,?_⟩,hid trivial,hid (⟨⟨X,Y,ks,vs,X,Y,HTWd.out,HR10d.out,HK12d.out,fun _=>⟨rfl,rfl⟩,fun e=>absurd (e.symm.trans (hb 5 (by decide))) (by decide),fun _=>⟨rfl,rfl⟩,fun e=>absurd (e.symm.trans (hb 11 (by decide))) (by decide),fun e=>absurd (e.symm.trans (hb 4 (by decide))) (by decide),fun e=>absurd (e.symm.trans (hb 10 (by decide))) (by decide),fun _=>rfl,fun e=>absurd (e.symm.trans (hb 13 (by decide))) (by decide),fun _=>rfl,fun e=>absurd (e.symm.trans (hb 15 (by decide))) (by decide)⟩,fun e=>absurd (e.symm.trans (hb 13 (by decide))) (by decide),fun e=>absurd (e.symm.trans (hb 15 (by decide))) (by decide),fun e=>absurd (e.symm.trans (hb 5 (by decide))) (by decide),fun e=>absurd (e.symm.trans (hb 11 (by decide))) (by decide)⟩)⟩
       all_goals (intro e; first | rfl | (rw [hb _ (by decide)] at e; cases e))
      case stepsD =>
       refine ⟨?_,?_,?_,?_,?_,?_,?_,?_,?_,?_,?_,?_,?_,?_,?_,?_,trivial⟩
       ·rintro b a wy hb hd ⟨z,z56,z57,z62,z63,rfl,HV,HW,HX⟩ K hK
        clear hd
        go_simp
        have V:=HV.out
        exact hK _ _ ⟨fun s=>if s=52 then .pointer (some ⟨X10,1,none⟩) else z s,_,_,_,_,rfl,hid ⟨fun _=>rfl,V.2.1,V.2.2.1,V.2.2.2.1,V.2.2.2.2.1,V.2.2.2.2.2.1,V.2.2.2.2.2.2.1,V.2.2.2.2.2.2.2.1,V.2.2.2.2.2.2.2.2.1,V.2.2.2.2.2.2.2.2.2⟩,HW,HX⟩
       ·rintro b a wy hb hd ⟨z,z56,z57,z62,z63,rfl,HV,HW,HX⟩ K hK
        simp [Region.binds] at hd
        have e0:(z 52) = .pointer (some ⟨X10,1,none⟩):=(HV.out.1) (by simp [hd])
        clear hd
        obtain ⟨⟨X',Y',ns,ms,a1,a2,T2,hrow,k12,x5,x5',y11,y11',g4,g10,a1f,a1t,a2f,a2t⟩,o13,o15,o5,o11⟩:=HX.out
        have n13:b 13=false:=by
         cases e:b 13 with
         | false=>rfl
         | true=>have:=(o13 e).1; rw [hb] at this; cases this
        have hc:=hrow.cellAt (i:=1) rfl
        rw [a1f n13] at hc
        go_simp
        have V:=HV.out
        exact hK _ _ ⟨fun s=>if s=53 then X else if s=52 then .pointer (some ⟨X10,1,none⟩) else z s,_,_,_,_,rfl,hid ⟨fun _=>rfl,fun _=>rfl,V.2.2.1,V.2.2.2.1,V.2.2.2.2.1,V.2.2.2.2.2.1,V.2.2.2.2.2.2.1,V.2.2.2.2.2.2.2.1,V.2.2.2.2.2.2.2.2.1,V.2.2.2.2.2.2.2.2.2⟩,HW,hid ⟨HX.out.1,fun e=>⟨rfl,(HX.out.2.1 e).2⟩,HX.out.2.2.1,fun e=>⟨rfl,(HX.out.2.2.2.1 e).2⟩,HX.out.2.2.2.2⟩⟩
       ·rintro b a wy hb hd ⟨z,z56,z57,z62,z63,rfl,HV,HW,HX⟩ K hK
        clear hd
        go_simp
        have V:=HV.out
        exact hK _ _ ⟨fun s=>if s=54 then .pointer (some ⟨X12,0,none⟩) else z s,_,_,_,_,rfl,hid ⟨V.1,V.2.1,fun _=>rfl,V.2.2.2.1,V.2.2.2.2.1,V.2.2.2.2.2.1,V.2.2.2.2.2.2.1,V.2.2.2.2.2.2.2.1,V.2.2.2.2.2.2.2.2.1,V.2.2.2.2.2.2.2.2.2⟩,HW,HX⟩
       ·rintro b a wy hb hd ⟨z,z56,z57,z62,z63,rfl,HV,HW,HX⟩ K hK
        simp [Region.binds] at hd
        have e2:(z 54) = .pointer (some ⟨X12,0,none⟩):=(HV.out.2.2.1) (by simp [hd])
        clear hd
        have hc:wy.cell? ⟨X12,0,none⟩=some (.int .u64 (kx.toNat:Int)):=by
         obtain ⟨⟨X',Y',ns,ms,a1,a2,T2,hrow,k12,x5,x5',y11,y11',g4,g10,a1f,a1t,a2f,a2t⟩,o13,o15,o5,o11⟩:=HX.out
         exact (k12.1).cellAt (i:=0) rfl
        go_simp
        have V:=HV.out
        exact hK _ _ ⟨fun s=>if s=55 then .int .u64 (kx.toNat:Int) else if s=54 then .pointer (some ⟨X12,0,none⟩) else z s,_,_,_,_,rfl,hid ⟨V.1,V.2.1,fun _=>rfl,fun _=>rfl,V.2.2.2.2.1,V.2.2.2.2.2.1,V.2.2.2.2.2.2.1,V.2.2.2.2.2.2.2.1,V.2.2.2.2.2.2.2.2.1,V.2.2.2.2.2.2.2.2.2⟩,HW,HX⟩
       ·rintro b a wy hb hd ⟨z,z56,z57,z62,z63,rfl,HV,HW,HX⟩ K hK
        simp [Region.binds] at hd
        have e3:(z 55) = .int .u64 (kx.toNat:Int):=(HV.out.2.2.2.1) (by simp [hd])
        clear hd
        go_simp
        obtain ⟨⟨X',Y',ns,ms,a1,a2,T2,hrow,k12,x5,x5',y11,y11',g4,g10,a1f,a1t,a2f,a2t⟩,o13,o15,o5,o11⟩:=HX.out
        have V:=HV.out
        exact hK _ _ ⟨fun s=>if s=55 then .int .u64 (kx.toNat:Int) else z s,_,_,_,_,rfl,hid ⟨V.1,V.2.1,V.2.2.1,fun _=>rfl,V.2.2.2.2.1,V.2.2.2.2.2.1,V.2.2.2.2.2.2.1,V.2.2.2.2.2.2.2.1,V.2.2.2.2.2.2.2.2.1,V.2.2.2.2.2.2.2.2.2⟩,HW,hid ⟨⟨X',Y',ns,ms,a1,a2,T2.below ((Below.refl wy.heap.size wy).alloc (Nat.le_refl _) _),hrow.below hrow.lt ((Below.refl wy.heap.size wy).alloc (Nat.le_refl _) _),k12.below ((Below.refl wy.heap.size wy).alloc (Nat.le_refl _) _),x5,x5',y11,y11',fun _=>⟨wy.heap.size,rfl,Kp3.new T2 _ _⟩,fun e=>(g10 e).elim fun g ⟨e1,e2⟩=>⟨g,e1,e2.below ((Below.refl wy.heap.size wy).alloc (Nat.le_refl _) _)⟩,a1f,a1t,a2f,a2t⟩,o13,o15,fun e=>⟨(o5 e).1,rfl⟩,o11⟩⟩
       ·rintro b a wy hb hd ⟨z,z56,z57,z62,z63,rfl,HV,HW,HX⟩ K hK
        simp [Region.binds] at hd
        have e1:(z 53)=X:=(HV.out.2.1) (by simp [hd])
        have dd4:b 4=true:=by simp [hd]
        have d1:b 1=true:=by simp [hd]
        have d4:b 4=true:=by simp [hd]
        have HD5:=hid d4
        have HD51:=hid d1
        clear d1 d4
        clear hd
        obtain ⟨⟨X',Y',ns,ms,a1,a2,T2,hrow,k12,x5,x5',y11,y11',g4,g10,a1f,a1t,a2f,a2t⟩,o13,o15,o5,o11⟩:=HX.out
        have ex:=(x5 hb).1
        have en:=(x5 hb).2
        subst X'
        subst ns
        obtain ⟨gk,rfl,kg⟩:=g4 HD5.out
        rw [e1]
        refine step_app_num rfl (.tmp 53) (.tmp 56) rfl (X10+1) X ks rfl T2.ok (by have:=HKL.out; omega) gk kx rfl (kg.1.cellAt (i:=0) rfl) T2.b0 (fun g5 cap5 w5 ho hg hl => ?_)
        have V:=HV.out
        exact hK _ _ ⟨fun s=>if s=53 then X else z s,_,_,_,_,rfl,hid ⟨V.1,fun _=>rfl,V.2.2.1,V.2.2.2.1,V.2.2.2.2.1,V.2.2.2.2.2.1,V.2.2.2.2.2.2.1,V.2.2.2.2.2.2.2.1,V.2.2.2.2.2.2.2.2.1,V.2.2.2.2.2.2.2.2.2⟩,HW,hid ⟨⟨_,Y',_,ms,a1,a2,T2.pushK ho hg hl,hrow.block (hg.block X10 hrow.lt (fun e=>(by have:=(World.ownsRow.lt T2.ok _ e.symm).1; omega))),k12.pushK hg hl,fun e=>(by simp [Inv.mark] at e),fun _=>⟨rfl,⟨g5,cap5,rfl⟩,rfl⟩,y11,y11',fun e=>⟨gk,rfl,kg.pushK hg hl⟩,fun e=>(g10 e).elim fun g ⟨e1,e2⟩=>⟨g,e1,e2.pushK hg hl⟩,a1f,fun e=>absurd ((o13 e).2.symm.trans hb) (by decide),a2f,a2t⟩,fun e=>⟨(o13 e).1,rfl⟩,o15,fun _=>⟨HD51.out,HD5.out⟩,o11⟩⟩
       ·rintro b a wy hb hd ⟨z,z56,z57,z62,z63,rfl,HV,HW,HX⟩ K hK
        clear hd
        go_simp
        have V:=HV.out
        exact hK _ _ ⟨fun s=>if s=58 then .pointer (some ⟨X10,2,none⟩) else z s,_,_,_,_,rfl,hid ⟨V.1,V.2.1,V.2.2.1,V.2.2.2.1,fun _=>rfl,V.2.2.2.2.2.1,V.2.2.2.2.2.2.1,V.2.2.2.2.2.2.2.1,V.2.2.2.2.2.2.2.2.1,V.2.2.2.2.2.2.2.2.2⟩,HW,HX⟩
       ·rintro b a wy hb hd ⟨z,z56,z57,z62,z63,rfl,HV,HW,HX⟩ K hK
        simp [Region.binds] at hd
        have e6:(z 58) = .pointer (some ⟨X10,2,none⟩):=(HV.out.2.2.2.2.1) (by simp [hd])
        clear hd
        obtain ⟨⟨X',Y',ns,ms,a1,a2,T2,hrow,k12,x5,x5',y11,y11',g4,g10,a1f,a1t,a2f,a2t⟩,o13,o15,o5,o11⟩:=HX.out
        have n15:b 15=false:=by
         cases e:b 15 with
         | false=>rfl
         | true=>have:=(o15 e).1; rw [hb] at this; cases this
        have hc:=hrow.cellAt (i:=2) rfl
        rw [a2f n15] at hc
        go_simp
        have V:=HV.out
        exact hK _ _ ⟨fun s=>if s=59 then Y else if s=58 then .pointer (some ⟨X10,2,none⟩) else z s,_,_,_,_,rfl,hid ⟨V.1,V.2.1,V.2.2.1,V.2.2.2.1,fun _=>rfl,fun _=>rfl,V.2.2.2.2.2.2.1,V.2.2.2.2.2.2.2.1,V.2.2.2.2.2.2.2.2.1,V.2.2.2.2.2.2.2.2.2⟩,HW,hid ⟨HX.out.1,HX.out.2.1,fun e=>⟨rfl,(HX.out.2.2.1 e).2⟩,HX.out.2.2.2.1,fun e=>⟨rfl,(HX.out.2.2.2.2 e).2⟩⟩⟩
       ·rintro b a wy hb hd ⟨z,z56,z57,z62,z63,rfl,HV,HW,HX⟩ K hK
        clear hd
        go_simp
        have V:=HV.out
        exact hK _ _ ⟨fun s=>if s=60 then .pointer (some ⟨X12,1,none⟩) else z s,_,_,_,_,rfl,hid ⟨V.1,V.2.1,V.2.2.1,V.2.2.2.1,V.2.2.2.2.1,V.2.2.2.2.2.1,fun _=>rfl,V.2.2.2.2.2.2.2.1,V.2.2.2.2.2.2.2.2.1,V.2.2.2.2.2.2.2.2.2⟩,HW,HX⟩
       ·rintro b a wy hb hd ⟨z,z56,z57,z62,z63,rfl,HV,HW,HX⟩ K hK
        simp [Region.binds] at hd
        have e8:(z 60) = .pointer (some ⟨X12,1,none⟩):=(HV.out.2.2.2.2.2.2.1) (by simp [hd])
        clear hd
        have hc:wy.cell? ⟨X12,1,none⟩=some (.int .u64 (vx.toNat:Int)):=by
         obtain ⟨⟨X',Y',ns,ms,a1,a2,T2,hrow,k12,x5,x5',y11,y11',g4,g10,a1f,a1t,a2f,a2t⟩,o13,o15,o5,o11⟩:=HX.out
         exact (k12.1).cellAt (i:=1) rfl
        go_simp
        have V:=HV.out
        exact hK _ _ ⟨fun s=>if s=61 then .int .u64 (vx.toNat:Int) else if s=60 then .pointer (some ⟨X12,1,none⟩) else z s,_,_,_,_,rfl,hid ⟨V.1,V.2.1,V.2.2.1,V.2.2.2.1,V.2.2.2.2.1,V.2.2.2.2.2.1,fun _=>rfl,fun _=>rfl,V.2.2.2.2.2.2.2.2.1,V.2.2.2.2.2.2.2.2.2⟩,HW,HX⟩
       ·rintro b a wy hb hd ⟨z,z56,z57,z62,z63,rfl,HV,HW,HX⟩ K hK
        simp [Region.binds] at hd
        have e9:(z 61) = .int .u64 (vx.toNat:Int):=(HV.out.2.2.2.2.2.2.2.1) (by simp [hd])
        clear hd
        go_simp
        obtain ⟨⟨X',Y',ns,ms,a1,a2,T2,hrow,k12,x5,x5',y11,y11',g4,g10,a1f,a1t,a2f,a2t⟩,o13,o15,o5,o11⟩:=HX.out
        have V:=HV.out
        exact hK _ _ ⟨fun s=>if s=61 then .int .u64 (vx.toNat:Int) else z s,_,_,_,_,rfl,hid ⟨V.1,V.2.1,V.2.2.1,V.2.2.2.1,V.2.2.2.2.1,V.2.2.2.2.2.1,V.2.2.2.2.2.2.1,fun _=>rfl,V.2.2.2.2.2.2.2.2.1,V.2.2.2.2.2.2.2.2.2⟩,HW,hid ⟨⟨X',Y',ns,ms,a1,a2,T2.below ((Below.refl wy.heap.size wy).alloc (Nat.le_refl _) _),hrow.below hrow.lt ((Below.refl wy.heap.size wy).alloc (Nat.le_refl _) _),k12.below ((Below.refl wy.heap.size wy).alloc (Nat.le_refl _) _),x5,x5',y11,y11',fun e=>(g4 e).elim fun g ⟨e1,e2⟩=>⟨g,e1,e2.below ((Below.refl wy.heap.size wy).alloc (Nat.le_refl _) _)⟩,fun _=>⟨wy.heap.size,rfl,Kp3.new T2 _ _⟩,a1f,a1t,a2f,a2t⟩,o13,o15,o5,fun e=>⟨(o11 e).1,rfl⟩⟩⟩
       ·rintro b a wy hb hd ⟨z,z56,z57,z62,z63,rfl,HV,HW,HX⟩ K hK
        simp [Region.binds] at hd
        have e7:(z 59)=Y:=(HV.out.2.2.2.2.2.1) (by simp [hd])
        have dd10:b 10=true:=by simp [hd]
        have d1:b 7=true:=by simp [hd]
        have d4:b 10=true:=by simp [hd]
        have HD11:=hid d4
        have HD111:=hid d1
        clear d1 d4
        clear hd
        obtain ⟨⟨X',Y',ns,ms,a1,a2,T2,hrow,k12,x5,x5',y11,y11',g4,g10,a1f,a1t,a2f,a2t⟩,o13,o15,o5,o11⟩:=HX.out
        have ex:=(y11 hb).1
        have en:=(y11 hb).2
        subst Y'
        subst ms
        obtain ⟨gk,rfl,kg⟩:=g10 HD11.out
        rw [e7]
        refine step_app_num rfl (.tmp 59) (.tmp 62) rfl (X10+1) Y vs rfl T2.ov (by have:=HKL.out; omega) gk vx rfl (kg.1.cellAt (i:=0) rfl) T2.b0 (fun g5 cap5 w5 ho hg hl => ?_)
        have V:=HV.out
        exact hK _ _ ⟨fun s=>if s=59 then Y else z s,_,_,_,_,rfl,hid ⟨V.1,V.2.1,V.2.2.1,V.2.2.2.1,V.2.2.2.2.1,fun _=>rfl,V.2.2.2.2.2.2.1,V.2.2.2.2.2.2.2.1,V.2.2.2.2.2.2.2.2.1,V.2.2.2.2.2.2.2.2.2⟩,HW,hid ⟨⟨X',_,ns,_,a1,a2,T2.pushV ho hg hl,hrow.block (hg.block X10 hrow.lt (fun e=>(by have:=(World.ownsRow.lt T2.ov _ e.symm).1; omega))),k12.pushV hg hl,x5,x5',fun e=>(by simp [Inv.mark] at e),fun _=>⟨rfl,⟨g5,cap5,rfl⟩,rfl⟩,fun e=>(g4 e).elim fun g ⟨e1,e2⟩=>⟨g,e1,e2.pushV hg hl⟩,fun e=>⟨gk,rfl,kg.pushV hg hl⟩,a1f,a1t,a2f,fun e=>absurd ((o15 e).2.symm.trans hb) (by decide)⟩,o13,fun e=>⟨(o15 e).1,rfl⟩,o5,fun _=>⟨HD111.out,HD11.out⟩⟩⟩
       ·rintro b a wy hb hd ⟨z,z56,z57,z62,z63,rfl,HV,HW,HX⟩ K hK
        clear hd
        go_simp
        have V:=HV.out
        exact hK _ _ ⟨fun s=>if s=64 then .pointer (some ⟨X10,1,none⟩) else z s,_,_,_,_,rfl,hid ⟨V.1,V.2.1,V.2.2.1,V.2.2.2.1,V.2.2.2.2.1,V.2.2.2.2.2.1,V.2.2.2.2.2.2.1,V.2.2.2.2.2.2.2.1,fun _=>rfl,V.2.2.2.2.2.2.2.2.2⟩,HW,HX⟩
       ·rintro b a wy hb hd ⟨z,z56,z57,z62,z63,rfl,HV,HW,HX⟩ K hK
        simp [Region.binds] at hd
        have e12:(z 64) = .pointer (some ⟨X10,1,none⟩):=(HV.out.2.2.2.2.2.2.2.2.1) (by simp [hd])
        have dd5:b 5=true:=by simp [hd]
        have d1:b 1=true:=by simp [hd]
        have d4:b 5=true:=by simp [hd]
        have HD13:=hid d4
        have HD131:=hid d1
        clear d1 d4
        clear hd
        have HZ : ∃j c,z57 = .slice (some ⟨j,0,none⟩) (ks.length+1) c:=by
         obtain ⟨⟨X',Y',ns,ms,a1,a2,T2,hrow,k12,x5,x5',y11,y11',g4,g10,a1f,a1t,a2f,a2t⟩,o13,o15,o5,o11⟩:=HX.out
         obtain ⟨e1,⟨j,c,e2⟩,_⟩:=x5' HD13.out
         exact ⟨j,c,e1.trans e2⟩
        obtain ⟨j0,c0,rfl⟩:=HZ
        have hcf:(∃v,wy.cell? ⟨X10,1,none⟩=some v)∧wy.frozen? ⟨X10,1,none⟩=false:=by
         obtain ⟨⟨X',Y',ns,ms,a1,a2,T2,hrow,k12,x5,x5',y11,y11',g4,g10,a1f,a1t,a2f,a2t⟩,o13,o15,o5,o11⟩:=HX.out
         exact ⟨⟨_,hrow.cellAt (i:=1) rfl⟩,hrow.free 1⟩
        obtain ⟨⟨v0,hc⟩,hf⟩:=hcf
        go_simp
        obtain ⟨⟨X',Y',ns,ms,a1,a2,T2,hrow,k12,x5,x5',y11,y11',g4,g10,a1f,a1t,a2f,a2t⟩,o13,o15,o5,o11⟩:=HX.out
        have V:=HV.out
        exact hK _ _ ⟨fun s=>if s=64 then .pointer (some ⟨X10,1,none⟩) else z s,_,_,_,_,rfl,hid ⟨V.1,V.2.1,V.2.2.1,V.2.2.2.1,V.2.2.2.2.1,V.2.2.2.2.2.1,V.2.2.2.2.2.2.1,V.2.2.2.2.2.2.2.1,fun _=>rfl,V.2.2.2.2.2.2.2.2.2⟩,HW,hid ⟨⟨X',Y',ns,ms,_,a2,T2.set ⟨Nat.le_refl _,Nat.lt_succ_self _⟩ 1 _,hrow.set 1 _,k12.set HNE.out 1 _,x5,x5',y11,y11',fun e=>(g4 e).elim fun g ⟨e1,e2⟩=>⟨g,e1,e2.set (fun q=>(by rw [q] at e2; exact absurd (kp_ne e2 hrow) id)) 1 _⟩,fun e=>(g10 e).elim fun g ⟨e1,e2⟩=>⟨g,e1,e2.set (fun q=>(by rw [q] at e2; exact absurd (kp_ne e2 hrow) id)) 1 _⟩,fun e=>(by simp [Inv.mark] at e),fun _=>(x5' HD13.out).1,a2f,a2t⟩,fun _=>⟨HD131.out,HD13.out⟩,o15,o5,o11⟩⟩
       ·rintro b a wy hb hd ⟨z,z56,z57,z62,z63,rfl,HV,HW,HX⟩ K hK
        clear hd
        go_simp
        have V:=HV.out
        exact hK _ _ ⟨fun s=>if s=65 then .pointer (some ⟨X10,2,none⟩) else z s,_,_,_,_,rfl,hid ⟨V.1,V.2.1,V.2.2.1,V.2.2.2.1,V.2.2.2.2.1,V.2.2.2.2.2.1,V.2.2.2.2.2.2.1,V.2.2.2.2.2.2.2.1,V.2.2.2.2.2.2.2.2.1,fun _=>rfl⟩,HW,HX⟩
       ·rintro b a wy hb hd ⟨z,z56,z57,z62,z63,rfl,HV,HW,HX⟩ K hK
        simp [Region.binds] at hd
        have e14:(z 65) = .pointer (some ⟨X10,2,none⟩):=(HV.out.2.2.2.2.2.2.2.2.2) (by simp [hd])
        have dd11:b 11=true:=by simp [hd]
        have d1:b 7=true:=by simp [hd]
        have d4:b 11=true:=by simp [hd]
        have HD15:=hid d4
        have HD151:=hid d1
        clear d1 d4
        clear hd
        have HZ : ∃j c,z63 = .slice (some ⟨j,0,none⟩) (vs.length+1) c:=by
         obtain ⟨⟨X',Y',ns,ms,a1,a2,T2,hrow,k12,x5,x5',y11,y11',g4,g10,a1f,a1t,a2f,a2t⟩,o13,o15,o5,o11⟩:=HX.out
         obtain ⟨e1,⟨j,c,e2⟩,_⟩:=y11' HD15.out
         exact ⟨j,c,e1.trans e2⟩
        obtain ⟨j0,c0,rfl⟩:=HZ
        have hcf:(∃v,wy.cell? ⟨X10,2,none⟩=some v)∧wy.frozen? ⟨X10,2,none⟩=false:=by
         obtain ⟨⟨X',Y',ns,ms,a1,a2,T2,hrow,k12,x5,x5',y11,y11',g4,g10,a1f,a1t,a2f,a2t⟩,o13,o15,o5,o11⟩:=HX.out
         exact ⟨⟨_,hrow.cellAt (i:=2) rfl⟩,hrow.free 2⟩
        obtain ⟨⟨v0,hc⟩,hf⟩:=hcf
        go_simp
        obtain ⟨⟨X',Y',ns,ms,a1,a2,T2,hrow,k12,x5,x5',y11,y11',g4,g10,a1f,a1t,a2f,a2t⟩,o13,o15,o5,o11⟩:=HX.out
        have V:=HV.out
        exact hK _ _ ⟨fun s=>if s=65 then .pointer (some ⟨X10,2,none⟩) else z s,_,_,_,_,rfl,hid ⟨V.1,V.2.1,V.2.2.1,V.2.2.2.1,V.2.2.2.2.1,V.2.2.2.2.2.1,V.2.2.2.2.2.2.1,V.2.2.2.2.2.2.2.1,V.2.2.2.2.2.2.2.2.1,fun _=>rfl⟩,HW,hid ⟨⟨X',Y',ns,ms,a1,_,T2.set ⟨Nat.le_refl _,Nat.lt_succ_self _⟩ 2 _,hrow.set 2 _,k12.set HNE.out 2 _,x5,x5',y11,y11',fun e=>(g4 e).elim fun g ⟨e1,e2⟩=>⟨g,e1,e2.set (fun q=>(by rw [q] at e2; exact absurd (kp_ne e2 hrow) id)) 2 _⟩,fun e=>(g10 e).elim fun g ⟨e1,e2⟩=>⟨g,e1,e2.set (fun q=>(by rw [q] at e2; exact absurd (kp_ne e2 hrow) id)) 2 _⟩,a1f,a1t,fun e=>(by simp [Inv.mark] at e),fun _=>(y11' HD15.out).1⟩,o13,fun _=>⟨HD151.out,HD15.out⟩,o5,o11⟩⟩
      case doneD =>
       rintro b a wy hb ⟨z,z56,z57,z62,z63,rfl,HV,HW,HX⟩
       have e0:=(HV.out.1) (hb 0)
       have e1:=(HV.out.2.1) (hb 1)
       have e2:=(HV.out.2.2.1) (hb 2)
       have e3:=(HV.out.2.2.2.1) (hb 3)
       have e6:=(HV.out.2.2.2.2.1) (hb 6)
       have e7:=(HV.out.2.2.2.2.2.1) (hb 7)
       have e8:=(HV.out.2.2.2.2.2.2.1) (hb 8)
       have e9:=(HV.out.2.2.2.2.2.2.2.1) (hb 9)
       have e12:=(HV.out.2.2.2.2.2.2.2.2.1) (hb 12)
       have e14:=(HV.out.2.2.2.2.2.2.2.2.2) (hb 14)
       simp only [e0,e1,e2,e3,e6,e7,e8,e9,e12,e14]
       clear HV e0 e1 e2 e3 e6 e7 e8 e9 e12 e14
       obtain ⟨⟨X',Y',ns,ms,a1,a2,T2,hrow,k12,x5,x5',y11,y11',g4,g10,a1f,a1t,a2f,a2t⟩,o13,o15,o5,o11⟩:=HX.out
       obtain ⟨rfl,_,rfl⟩:=x5' (hb 5)
       obtain ⟨rfl,_,rfl⟩:=y11' (hb 11)
       obtain rfl:=a1t (hb 13)
       obtain rfl:=a2t (hb 15)
       have HGn:=hid (show Grow w1 (X10+1) X10 bl a1 a2 ((pc.take (k+1)).map Prod.fst) ((pc.take (k+1)).map Prod.snd) wy from ⟨by rw [HTK.out.1,HTK.out.2]; exact T2,hrow,by omega⟩)
       clear hb HX T2 hrow k12 x5 x5' y11 y11' g4 g10 a1f a1t a2f a2t o13 o15 o5 o11
       go_wp2_with fail
       go_roundw
       case rel=>exact ⟨k+1,_,_,by go_num,by omega,HGn⟩
       case measure=>simp [Go.RowKit.intOf]; omega
     ·obtain rfl:k=ck:=by omega
      have hlk:pc.take k=pc:=List.take_of_length_le (by rw [HPL.out]; exact Nat.le_refl _)
      rw [hlk] at HG
      obtain ⟨aK,cK,eK,t1,t2,t3⟩:=HG.out.two.ok.slice
      obtain ⟨aV,cV,eV,v1,v2,v3⟩:=HG.out.two.ov.slice
      rw [List.length_map,HPL.out] at eK eV t2 v2
      subst eK eV
      have hnd:Nd wr aK k cK aV k cV (pc.map Prod.fst) (pc.map Prod.snd):=⟨by rw [List.length_map,HPL.out],by rw [List.length_map,HPL.out],t2,t3,v2,v3,t1,v1⟩
      have hbw:Below wz.heap.size wz wr:=HB1.out.trans (by rw [← HX10.out]; exact HG.out.two.bw)
      have hat0:=HAT.out.below hbw
      have hal : ∀j∈A.list,j<w.heap.size:=HAL.out
      have hLz:wL.heap.size≤wz.heap.size:=HBT.out.size
      have hx10:w.heap.size≤X10:=by have:=HX10.out; omega
      obtain ⟨G,cap,rfl,hgr,_⟩:=HO.out.slice
      have hgc:=hgr.kc
      have hgm:=hgr.km
      unfold maxLen at hgm
      have HUL2:=hid (show ups2.length=i from HM.out.len)
      have HOv:=hid (HO.out.kept hbw (Nat.le_refl _))
      have HBW:=hid hbw
      have HAL2:=hid hal
      have HT1:=hid t1
      have d0:=HG.out.row.cellAt (i:=0) rfl
      have d1:=HG.out.row.cellAt (i:=1) rfl
      have d2:=HG.out.row.cellAt (i:=2) rfl
      have hki : ¬((k:Int)<(k:Int)):=by omega
      clear hbw hal t1 v1 t2 v2 t3 v3 hgr
      obtain ⟨wv,hwv⟩ : ∃q,q=wr:=⟨_,rfl⟩
      subst hwv
      go_wp2_with fail
      refine (put_law HM.out.fed hat0 HFT.out.2 bl hnd HFT.out.1).mono ?_
      rintro e w3 ⟨b,rfl,hfd,hat,hb⟩
      have HM5:=HM.out.step HRIS.out HILT.out hfd HKA.out.1 HKA.out.2
      rw [← HBL.out,← HPC.out] at HM5
      have HM5:=hid HM5
      have HAT3:=hid hat
      have HBb:=hid hb
      have hbn:b<n:=by have h1:=hfd.1; have e:=HM.out.fed.xn; unfold BS.n at e; omega
      have hn4:n≤400:=HM.out.fed.hi
      have hcv:IntKind.u64.wrap (b:Int)=(b:Int):=by rw [IntKind.wrap_u64]; omega
      obtain ⟨bK,oK,rfl,hK⟩ : ∃b o,aK=some ⟨b,o,none⟩∧Lf.HasN wv b o (pc.map Prod.fst):=by
       rcases HT1.out with q | q
       ·have h2:(pc.map Prod.fst).length=0:=by rw [q]; rfl
        rw [List.length_map,HPL.out] at h2
        omega
       ·exact q
      have hk0:=hK 0 (by rw [List.length_map,HPL.out]; omega)
      obtain ⟨k0,hkk⟩ : ∃y,(pc.map Prod.fst)[0]'(by rw [List.length_map,HPL.out]; omega)=y:=⟨_,rfl⟩
      rw [hkk] at hk0
      have HK0:=hid (show (ups.getD ca (0,0)).1=k0 from by
       obtain ⟨g2,e2⟩:=HPG.out 0 (by rw [HPL.out]; omega)
       rw [← hkk,List.getElem_map,e2,List.getD_eq_getElem?_getD,List.getElem?_eq_getElem (show ca<ups.length from g2)]
       rfl)
      have hbK:X10+1≤bK:=(World.ownsRow.lt HG.out.two.ok bK rfl).1
      have hk3:w3.cell? ⟨bK,oK,none⟩=some (.int .u64 (k0.toNat:Int)):=(World.cell?_of_block (a:=⟨bK,oK,none⟩) (hb.block bK (World.block_lt_of_cell? wv _ hk0) (fun q=>by have:=HAL2.out bK q; omega))).trans hk0
      have hr3:=HG.out.row.block (hb.block X10 HG.out.row.lt (fun q=>by have:=HAL2.out X10 q; omega))
      have d1:=hr3.cellAt (i:=1) rfl
      have hkp:(0:Int)<(k:Int):=by omega
      have hkpn:0<k:=by omega
      obtain ⟨i0,hi0,hz0,hz1,hz2⟩:=info_parts item_info
      have ro:=alloc_rowV w3 104 [.int .u64 (k0.toNat:Int),.int .u64 (b:Int)]
      have hnews : ∀j u,([.int .u64 (k0.toNat:Int),.int .u64 (b:Int)]:List Value)[j]?=some u→(w3.alloc (.cells #[.int .u64 (k0.toNat:Int),.int .u64 (b:Int)] 104)).cell? ((⟨w3.heap.size,0,none⟩:Addr).add j)=some u:=fun j u hj=>by
       rw [add_plain]
       exact ro.has.cellAt hj
      have hones : ∀u∈([.int .u64 (k0.toNat:Int),.int .u64 (b:Int)]:List Value),u.oneCell'=true:=by simp [Value.oneCell']
      have HO3:OwnJ w3 wL.heap.size (.slice G ups2.length cap) ups2:=HOv.out.same fun j e hj=>hb.block j hj (fun q=>by have h1:=HAL2.out j q; have h2:=(HOv.out.lt e).1; omega)
      have al:=(Below.refl w3.heap.size w3).alloc (Nat.le_refl _) (.cells #[.int .u64 (k0.toNat:Int),.int .u64 (b:Int)] 104)
      have HO4:=HO3.kept al (Nat.le_refl _)
      have s3:(w3.alloc (.cells #[.int .u64 (k0.toNat:Int),.int .u64 (b:Int)] 104)).heap.size=w3.heap.size+1:=World.size_alloc ..
      have hs3:wz.heap.size≤w3.heap.size:=Nat.le_trans HBW.out.size hb.size
      clear hfd hat hb d0 d2 hk0 hK hkk
      go_wp2_with (at_builtin; refine wpList_append_own_at _ rfl _ _ 83 rfl wL.heap.size 104 i0 (.agg #[.int .u64 0,.int .u64 0]) 2 16 Tryz.underlying83 hi0 hz0 hz1 hz2 rfl (by decide) (.slice G ups2.length cap) ups2.length (ivs ups2) rfl HO4 ⟨w3.heap.size,0,none⟩ 1 1 [.int .u64 (k0.toNat:Int),.int .u64 (b:Int)] rfl rfl hnews hones (by have:=HUL2.out; unfold maxLen; omega) (by have:=HUL2.out; omega) (by omega) ?_; intro v' w5 hown' hgrow _ hblk; obtain ⟨g',cap',rfl⟩:=ownsRow_succ hown'; have HOW:=hid hown'; have HGR:=hid hgrow)
      have HO5:=hid (show OwnJ w5 wL.heap.size (.slice (some ⟨g',0,none⟩) (ups2.length+1) cap') (ups2 ++ [((ups.getD ca (0,0)).1,UInt64.ofNat b)]) by
       unfold OwnJ
       rw [List.length_append,ivs_append,HK0.out]
       show World.ownsRow _ _ _ _ _ _ (ivs ups2 ++ [.int .u64 (k0.toNat:Int),.int .u64 ((UInt64.ofNat b).toNat:Int)])
       rw [b64 (by omega)]
       exact HOW.out)
      have HAT5:=hid ((HAT3.out.below al).grew HO4 HGR.out)
      have HBT5:=hid (show ButL wL w5 A.list from
       have k3:=HBT.out.trans ((ButL.of_below A.list HBW.out (Nat.le_refl _)).trans (HBb.out.trans (ButL.of_below A.list al (Nat.le_refl _))))
       ⟨HGR.out.os.trans k3.os,HGR.out.tape.trans k3.tape,HGR.out.output.trans k3.output,Nat.le_trans k3.size HGR.out.size,fun j hj hn=>(HGR.out.block j (Nat.lt_of_lt_of_le hj k3.size) (fun e=>by have:=(HO4.lt e.symm).1; omega)).trans (k3.block j hj hn)⟩)
      exact ⟨⟨i+1,_,_,by go_num,by omega,HM5,HO5,HAT5,HBT5⟩,by simp [Go.RowKit.intOf]; omega⟩
   ·obtain rfl:i=M:=by omega
    have hul:ups.length=N1:=HROW.out.el
    have hme:i=manyN ups.length:=by rw [hul]; exact HMM.out
    have HMe:=HM.out
    rw [show Mid x n lv ups segs l i y ups2=Mid x n lv ups segs l (manyN ups.length) y ups2 by rw [← hme]] at HMe
    obtain ⟨G,cap,rfl,hgr,_⟩:=HO.out.slice
    have hul2:ups2.length=i:=HM.out.len
    have hii : ¬((i:Int)<(i:Int)):=by omega
    by_cases h1:i=1
    ·have h7:ups.length≤7:=(many_one (by omega)).1 (by rw [← hme]; exact h1)
     have HR:=hid (HMe.root h7)
     have hon:=HM.out.one
     obtain ⟨kr,v,eu,htr⟩:=HR.out
     have hheld:=htr.at_root
     have hv:=hheld.lt HM.out.fed
     have hn4:=HM.out.fed.hi
     obtain ⟨gb,go,rfl,hcc⟩:=hgr.at (i:=0) (by omega)
     subst eu
     have hc0:wz.cell? ⟨gb,go+1,none⟩=some (.int .u64 (v.toNat:Int)):=(hcc 0 (Nat.zero_lt_one)).2
     have hcv:IntKind.i64.wrap (v.toNat:Int)=(v.toNat:Int):=wrap_i64 (by omega) (by omega)
     have HF9:=hid (show Fed n y∧Held y (v.toNat:Int)∧Tr (nodeR y n) (Held y) (min (lv+1) 2) lv (v.toNat:Int) l∧lv+1=upH N∧(N≤7→x.q.Found v.toNat∧y=x.put v.toNat (nodePage true (l.map Prod.fst) (l.map Prod.snd))) from by
      have hup:=HUP.out
      rw [upH_one (by omega:N1≤7)] at hup
      refine ⟨HM.out.fed,hheld,htr,hup,fun q => ?_⟩
      rw [upH_one q] at hup
      have e0:lv=0:=by omega
      obtain ⟨b,b1,b2,b3⟩:=(hon e0).2 h1 h7
      have e1:v.toNat=b:=b3 (kr,v) (List.mem_cons_self ..)
      have e2:ups=l:=by rw [← HM.out.lev.flat,HM.out.lev.leaf e0,flat_ones]
      rw [e1,b2,e2]
      exact ⟨b1,rfl⟩)
     clear hon htr hheld hcc hme HMe hgr
     subst h1
     go_wp2_with fail
     go_ret2
     exact ⟨v.toNat,rfl,y,lv,HF9.out.1,HF9.out.2.1,HF9.out.2.2.1,HF9.out.2.2.2.1,HF9.out.2.2.2.2,HAT.out,HBT0.out.trans HBT.out⟩
    ·have h7:7<ups.length:=by
      rcases Nat.lt_or_ge 7 ups.length with q | q
      ·exact q
      ·exact absurd (hme.trans ((many_one (by omega)).2 q)) h1
     obtain ⟨segs2,hm2,hl2⟩:=HMe.done h7
     have HM2:=hid hm2
     have hi1:((i:Int)==1)=false:=beq_eq_false_iff_ne.mpr (by omega)
     have HG2:=hid hgr
     have HUP2:=hid (show lv+1+upH ups2.length=upH N by
      have hup:=HUP.out
      rw [← hul,upH_many h7] at hup
      rw [hl2]
      omega)
     have hlv2:lv+1≤200:=by
      have h3:=HUP2.out
      have h4:=upH_le N
      have h5:=upH_pos ups2.length
      omega
     have hml:=many_less h7
     have HSEP2:=hid (show ∀b o,G=some ⟨b,o,none⟩→b∉A.list from fun b o e hm=>by
      subst e
      have h3:=(HO.out.lt (k:=b) rfl).1
      have h4:=HAL.out b hm
      omega)
     have HML:=hid (show lenV (.slice G ups2.length cap)<lenV (.slice LB N1 c1) from by
      show ups2.length<N1
      omega)
     have HB2:=hid (HBT0.out.trans HBT.out)
     have hl3:1≤ups2.length∧ups2.length≤200:=by omega
     clear hm2 hgr HMe hme hml hl2 hul2
     go_wp2_with fail
     exact ⟨⟨lv+1,ups2,segs2,y,G,ups2.length,cap,by go_num,rfl,HG2,HSEP2,HM2,HUP2,hl3.1,hl3.2,hlv2,HAT,HB2⟩,HML.out⟩
end
end Go.Proofs.YtogchamogbendaaGreat.Bs
namespace Go.Proofs.YtogchamogbendaaGreat.Bs
open Go.RowKit Oct Mv Tl Pk Pl Go.Maps Go.ChangeMaps Go.ChangeShapes Go.WideShapes Go.ChangeAt
open Lf (Nd Fit nodePage RowN ToldN Rises)
section
variable {H:Type} {enc:TypeId×Value→H} {W:World}
theorem cellsItem:Tryz.prog.cellsOf 104 = 2:=by kernel_rfl
theorem cellsU64:Tryz.prog.cellsOf 30 = 1:=by kernel_rfl
theorem two_of {α:Type} : ∀(l:List α),l.length=2 → ∃c0 c1,l = [c0,c1]
 | [c0,c1],_=>⟨c0,c1,rfl⟩
theorem u64_of {n:Int} (h:(Lit.int .u64 n).wf=true) : ∃c:UInt64,n=(c.toNat:Int):=by
 have h2:IntKind.u64.min≤n∧n≤IntKind.u64.max:=by simpa [Lit.wf] using h
 have h0:IntKind.u64.min=0:=rfl
 have h1:IntKind.u64.max=18446744073709551615:=rfl
 rw [h0,h1] at h2
 refine ⟨UInt64.ofNat n.toNat,?_⟩
 rw [UInt64.toNat_ofNat',Nat.mod_eq_of_lt (by show n.toNat<18446744073709551616; omega)]
 omega
theorem came_item {n:Nat} {cs:List Value} {y:DataW H×List MemPlace} (h:DataW.trod enc Tryz.prog W 0 (fun _=>true) true n 104 cs=some y) :
  ∃x:Itm,cs = [.int .u64 (x.1.toNat:Int),.int .u64 (x.2.toNat:Int)]:=by
 obtain ⟨xs,n',rfl,hy,hlen,hxl,hf⟩:=DataW.trod_struct Tryz.underlying104 h
 rw [cellsItem] at hlen
 obtain ⟨c0,c1,rfl⟩:=two_of cs hlen
 obtain ⟨y0,y1,rfl⟩:=two_of xs hxl
 have h0:DataW.trod enc Tryz.prog W 0 (fun _=>true) true n' 30 (([c0,c1].drop 0).take (Tryz.prog.cellsOf 30))=some y0:=hf 0 _ rfl
 have h1:DataW.trod enc Tryz.prog W 0 (fun _=>true) true n' 30 (([c0,c1].drop 1).take (Tryz.prog.cellsOf 30))=some y1:=hf 1 _ rfl
 rw [cellsU64] at h0 h1
 obtain ⟨x,e0,_,w0⟩:=DataW.trod_int Tryz.underlying30 h0
 obtain ⟨p,e1,_,w1⟩:=DataW.trod_int Tryz.underlying30 h1
 obtain ⟨x,rfl⟩:=u64_of w0
 obtain ⟨p,rfl⟩:=u64_of w1
 simp at e0 e1
 subst e0 e1
 exact ⟨(x,p),rfl⟩
theorem ivs_range (F:Nat→Itm) : ∀n i,i<n→(ivs ((List.range n).map F))[2*i]?=some (.int .u64 ((F i).1.toNat:Int))∧(ivs ((List.range n).map F))[2*i+1]?=some (.int .u64 ((F i).2.toNat:Int)):=fun n i hi=>by
 have h1:=ivs_key ((List.range n).map F) i (by simpa using hi)
 have h2:=ivs_val ((List.range n).map F) i (by simpa using hi)
 simp only [List.getElem_map,List.getElem_range] at h1 h2
 exact ⟨h1,h2⟩
theorem came_items {d:DataW H} {p:List MemPlace} (A:Option Addr) (len cap:Nat) (h:DataW.Trod enc Tryz.prog W 0 (fun _=>true) true 83 (.slice A len cap) d p) :
  ∃l,IRow W A len cap l:=by
 obtain ⟨fuel,hf⟩:=h
 rcases Go.Deep.open_slice Tryz.underlying83 hf with ⟨hcs,_⟩ | ⟨a,len',cap',m,n,D,Pl,hcs,hb,hl,hm,hmm,hx,hi⟩
 ·simp [Value.cells] at hcs
  obtain ⟨rfl,rfl,rfl⟩:=hcs
  exact ⟨[],rfl,Nat.le_refl _,Nat.zero_le _,.inl rfl⟩
 ·simp [Value.cells] at hcs
  obtain ⟨rfl,rfl,rfl⟩:=hcs
  rw [if_pos rfl] at hmm
  subst hmm
  have each : ∀i,i<m → ∃x:Itm,∀j (hj:j<2),W.cell? ((a.add (i*2)).add j) = [Value.int .u64 (x.1.toNat:Int),.int .u64 (x.2.toNat:Int)][j]?:=fun i him=>by
   obtain ⟨cs',hc,ht'⟩:=hi i him
   obtain ⟨x,rfl⟩:=came_item ht'
   rw [cellsItem] at hc
   obtain ⟨_,hcl,hat⟩:=World.cells?_some hc
   exact ⟨x,fun j hj=>hat j hj⟩
  obtain ⟨F,hF⟩ : ∃F:Nat→Itm,∀i,i<len → ∀j (hj:j<2),W.cell? ((a.add (i*2)).add j) = [Value.int .u64 ((F i).1.toNat:Int),.int .u64 ((F i).2.toNat:Int)][j]? :=
   ⟨fun i=>if h:i<m then (each i h).choose else (0,0),fun i h=>by
    have h':i<m:=by omega
    simp only [h',dif_pos]
    exact (each i h').choose_spec⟩
  refine ⟨(List.range len).map F,by simp,hl,hm,?_⟩
  rcases Nat.eq_zero_or_pos len with h0 | h0
  ·left; rw [h0]; rfl
  ·have h1:=hF 0 (by omega) 0 (by omega)
   obtain ⟨b,o,spot⟩:=a
   have hspot:spot=none:=by simpa [Addr.add] using World.cell?_spot h1
   subst hspot
   refine .inr ⟨b,o,rfl,fun k hk => ?_⟩
   rw [length_ivs,List.length_map,List.length_range] at hk
   have ha : ∀i j,((Addr.mk b o none).add (i*2)).add j=⟨b,o+i*2+j,none⟩:=fun i j=>by rw [Oct.add_plain,Oct.add_plain]
   have hr:=ivs_range F len (k/2) (by omega)
   have h2:=hF (k/2) (by omega)
   rcases (show k=2*(k/2)∨k=2*(k/2)+1 by omega) with e | e
   ·have h3:=h2 0 (by omega)
    rw [ha] at h3
    have h4:=hr.1
    rw [← e,List.getElem?_eq_getElem (by rw [length_ivs,List.length_map,List.length_range]; omega)] at h4
    rw [show o+k=o+k/2*2+0 by omega,Option.some.inj h4]
    simpa using h3
   ·have h3:=h2 1 (by omega)
    rw [ha] at h3
    have h4:=hr.2
    rw [← e,List.getElem?_eq_getElem (by rw [length_ivs,List.length_map,List.length_range]; omega)] at h4
    rw [show o+k=o+k/2*2+1 by omega,Option.some.inj h4]
    simpa using h3
end
theorem tot_small {n:Nat} (h:n≤200):tot n≤59:=by
 rcases Nat.lt_or_ge 7 n with k | k
 ·rw [tot_more k]
  have:=tot_le (manyN n)
  have:manyN n≤29:=by unfold manyN; omega
  omega
 ·rw [tot_one k]; omega
theorem upH_small {n:Nat} (h:n≤343):upH n≤3:=by
 rcases Nat.lt_or_ge 7 n with k | k
 ·rw [upH_more k]
  rcases Nat.lt_or_ge 7 ((n+6)/7) with q | q
  ·rw [upH_more q,upH_one (by omega)]; omega
  ·rw [upH_one q]; omega
 ·rw [upH_one k]; omega
def Wood (y:BS) (n:Nat) (l:List Itm) (root:Nat):Prop :=
 Fed n y∧((l = []∧root=0) ∨ ∃lv,Held y (root:Int)∧Tr (nodeR y n) (Held y) (min (lv+1) 2) lv (root:Int) l∧lv+1=upH l.length)
theorem down_zero (x:BS) (n:Nat) (key:UInt64):downR x n 0 key=⟨true,[],[],0,maxU,0⟩:=by
 unfold downR
 rw [if_pos rfl]
section
variable {y:BS} {n root:Nat} {l:List Itm}
theorem Wood.low (h:Wood y n l root):root<400:=by
 have h4:=h.1.hi
 rcases h.2 with ⟨_,e⟩ | ⟨_,hh,_⟩
 ·omega
 ·have:=hh.lt h.1; omega
theorem Wood.get (h:Wood y n l root) (hr:Ris l) (hl:l.length≤200) (k:UInt64):getF (downR y n (root:Int) k) k=((look l k).1,(look l k).2,0):=by
 rcases h.2 with ⟨rfl,rfl⟩ | ⟨lv,hh,ht,hu⟩
 ·rw [show ((0:Nat):Int)=0 from rfl,down_zero]
  exact fw_get0 k
 ·have:=hh.lt h.1
  have:=upH_small (n:=l.length) (by omega)
  exact (get_tr h.1 ht hr (by omega) (by omega) k).1
theorem Wood.right (h:Wood y n l root) (hr:Ris l) (hl:l.length≤200):true=rightR y n (root:Int):=by
 rcases h.2 with ⟨rfl,rfl⟩ | ⟨lv,hh,ht,hu⟩
 ·unfold rightR
  rw [show ((0:Nat):Int)=0 from rfl,down_zero]
  rfl
 ·have:=hh.lt h.1
  have h3:=upH_small (n:=l.length) (by omega)
  obtain ⟨_,e1,e2⟩:=get_tr h.1 ht hr (by omega) (by omega) 0
  unfold rightR
  rw [e1,if_neg (by omega)]
  exact (tr_right lv _ _ l 0 maxU ht hr fun p _=>⟨Nat.zero_le _,by have:=p.1.toNat_lt; show _≤18446744073709551615; omega⟩).symm
end
section
variable {Pr:Nat→Prop} {A:Adr} {y:BS} {w:World} {n root:Nat} {l:List Itm}
theorem wood_get (h:Wood y n l root) (hr:Ris l) (hl:l.length≤200) (ha:BAt Pr w A y) (k:UInt64) :
  Calls Tryz.prog 53 #[.pointer (some ⟨A.b,0,none⟩),.int .i64 (root:Int),.int .u64 (k.toNat:Int)] w fun e w'=>e = .returned (.tuple #[.int .u64 ((look l k).1.toNat:Int),.bool (look l k).2,.int .i64 0])∧Below w.heap.size w w' :=
 get_of root k _ (down_any h.1 ha root k (by have:=h.low; omega) _ rfl) ((look l k).1,(look l k).2,0) (h.get hr hl k).symm
theorem wood_right (h:Wood y n l root) (hr:Ris l) (hl:l.length≤200) (ha:BAt Pr w A y) :
  Calls Tryz.prog 52 #[.pointer (some ⟨A.b,0,none⟩),.int .i64 (root:Int)] w fun e w'=>e = .returned (.bool true)∧Below w.heap.size w w' :=
 fright_is h.1 ha root (by have:=h.low; omega) true (h.right hr hl)
theorem build_wood {z:Wk} (hz:Begun0 200 z) (h:BAt Pr w A (made0 200 z)) {LA:Option Addr} {N c:Nat} (hrow:IRow w LA N c l) (hN:N≤200) (hris:Ris l) (hsep : ∀b o,LA=some ⟨b,o,none⟩→b∉A.list) :
  Calls Tryz.prog 51 #[.pointer (some ⟨A.b,0,none⟩),.slice LA N c] w fun e w' => ∃(b:Nat) (y:BS),e = .returned (.tuple #[.int .i64 (b:Int),.bool true])∧Wood y 200 l b∧BAt Pr w' A y∧ButL w w' A.list:=by
 have hf:=made_fed (by omega) (by omega) hz
 rcases Nat.eq_zero_or_pos N with h0 | h0
 ·subst h0
  have hl:l = []:=List.eq_nil_of_length_eq_zero hrow.el
  have HA:=Lib.hid h
  have HW:=Lib.hid (show Wood (made0 200 z) 200 l 0 from ⟨hf,.inl ⟨hl,rfl⟩⟩)
  clear h hrow hf hz
  go_enter Tryz.func51,Tryz.ntmps51
  go_wp2_with fail
  go_ret2
  exact ⟨0,_,rfl,HW.out,HA.out,ButL.refl _ _⟩
 ·have hroom:=(made_room (by omega) (by omega) hz).1
  have hnn:=(made_room (by omega) (by omega) hz).2
  have h5:need 200=5:=by decide
  have ht:=tot_small hN
  refine (build_any hf h l hrow ⟨h0,hN⟩ (by rw [hnn]; omega) hris hsep).mono ?_
  rintro e w' ⟨b,rfl,y,lv,h1,h2,h3,h4,_,h6,h7⟩
  exact ⟨b,y,rfl,⟨h1,.inr ⟨lv,h2,h3,by rw [hrow.el]; exact h4⟩⟩,h6,h7⟩
end
end Go.Proofs.YtogchamogbendaaGreat.Bs
