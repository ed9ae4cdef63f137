import Derived.Maps.OwnIn
import Derived.Test.YtogchamogbendaaGreatQtA
import Derived.Test.YtogchamogbendaaGreatQty
set_option maxRecDepth 100000
set_option linter.unusedVariables false
set_option linter.unusedSimpArgs false
namespace Go.Proofs.YtogchamogbendaaGreat.Bs
open Lib (hid)
open Go.RowKit Oct Mv Tl Pk Pl Go.Maps Go.ChangeMaps
open Lf (Nd Fit nodePage RowN ToldN)
open No (atR at_any)
attribute [local go_sem] Oper.semAt_some
def walkGo (most:Int):List Itm→List (Itm×Nat)→List Itm×Nat
 | acc,[]=>(acc,0)
 | acc,x :: r=>if x.2≠0 then ([],x.2) else if most≤((if 0<most then acc ++ [x.1] else acc).length:Int) then ((if 0<most then acc ++ [x.1] else acc),0) else walkGo most (if 0<most then acc ++ [x.1] else acc) r
theorem items_any (n:Nat) (p:Option Addr) (root:Int) (fr tt:UInt64) (w:World) :
  CallsIn Fence.wide n Tryz.prog 119 #[.pointer p,.int .i64 root,.int .u64 (fr.toNat:Int),.int .u64 (tt.toNat:Int)] w fun e w' =>
   e = .returned (.func (.func 173) #[] #[.pointer (some ⟨w.heap.size,0,none⟩),.pointer (some ⟨w.heap.size+1,0,none⟩),.pointer (some ⟨w.heap.size+1+1,0,none⟩),.pointer (some ⟨w.heap.size+1+1+1,0,none⟩)]) ∧
   w'=(((w.alloc (.cells #[.pointer p] 24)).alloc (.cells #[.int .i64 root] 3)).alloc (.cells #[.int .u64 (fr.toNat:Int)] 30)).alloc (.cells #[.int .u64 (tt.toNat:Int)] 30):=by
 refine callsIn_of_wp Tryz.func119 rfl trivial ?_ rfl
 simp only [Tryz.ntmps119,List.size_toArray,List.length_cons,List.length_nil,Nat.reduceAdd,Nat.reduceSub,Array.replicate_succ,Array.replicate_zero,List.push_toArray,List.append_toArray,List.nil_append,List.cons_append]
 gi_wp2
 go_ret
 exact ⟨rfl,rfl⟩
theorem put_but (A:World) (k:Nat) (o:Obj):ButL A (A.putObj k o) [k]:=⟨rfl,rfl,rfl,by simp [World.putObj],fun j hj hm=>World.putObj_heap_other (by simp at hm; omega)⟩
structure WI (w:World) (s:Nat) (most:Int) (pre:List (Itm×Nat)) (acc:List Itm) (v:Value) (A:World):Prop where
 go : ∀r,walkGo most [] (pre++r)=walkGo most acc r
 few:acc.length≤pre.length∧(acc = []∨(acc.length:Int)<most)
 row:RowV A (s+3) 83 [v]
 own:OwnJ A (s+10) v acc
 most:RowV A s 3 [.int .i64 most]
 r1:RowV A (s+1) 83 [.slice none 0 0]
 r2:RowV A (s+2) 39 [.int .i64 0]
 low:Below s w A
 big:s+10≤A.heap.size
theorem WI.but {w:World} {s:Nat} {most:Int} {pre:List (Itm×Nat)} {acc:List Itm} {v:Value} {A B:World} {M:List Nat} (h:WI w s most pre acc v A) (k:ButL A B M) (hM : ∀x∈M,s+4≤x∧x<s+10):WI w s most pre acc v B:=by
 have hb:=h.big
 have hk : ∀j,j<A.heap.size→j<s+4∨s+10≤j→B.heap[j]?=A.heap[j]?:=fun j hj hq=>k.block j hj fun hm=>by have:=hM j hm; omega
 exact ⟨h.go,h.few,h.row.block (hk _ (by omega) (by omega)),h.own.same fun j e hj=>hk j hj (.inr (h.own.lt e).1),h.most.block (hk _ (by omega) (by omega)),h.r1.block (hk _ (by omega) (by omega)),h.r2.block (hk _ (by omega) (by omega)),
  h.low.trans (k.below (fun x hx=>by have:=hM x hx; omega) (by omega)),Nat.le_trans hb k.size⟩
def WX (w:World) (s:Nat) (most:Int) (L:List (Itm×Nat)) (c:Code) (A:World):Prop :=
 (c = .ret ∧ ∃e:Nat,walkGo most [] L=([],e)∧RowV A (s+1) 83 [.slice none 0 0]∧RowV A (s+2) 39 [.int .i64 (e:Int)]∧Below s w A∧s+10≤A.heap.size) ∨
 (c = .exit 0 ∧ ∃acc v,walkGo most [] L=(acc,0)∧RowV A (s+3) 83 [v]∧OwnJ A (s+10) v acc∧RowV A (s+1) 83 [.slice none 0 0]∧RowV A (s+2) 39 [.int .i64 0]∧Below s w A∧s+10≤A.heap.size)
theorem WX.but {w:World} {s:Nat} {most:Int} {L:List (Itm×Nat)} {c:Code} {A B:World} {M:List Nat} (h:WX w s most L c A) (k:ButL A B M) (hM : ∀x∈M,s+4≤x∧x<s+10):WX w s most L c B:=by
 have hk:s+10≤A.heap.size → ∀j,j<A.heap.size→j<s+4∨s+10≤j→B.heap[j]?=A.heap[j]?:=fun _ j hj hq=>k.block j hj fun hm=>by have:=hM j hm; omega
 have hl : ∀ {u:World},Below s u A→s+10≤A.heap.size→Below s u B:=fun h hb=>h.trans (k.below (fun x hx=>by have:=hM x hx; omega) (by omega))
 rcases h with ⟨hc,e,h1,h2,h3,h4,hb⟩ | ⟨hc,acc,v,h1,h2,h3,h4,h5,h6,hb⟩
 ·exact .inl ⟨hc,e,h1,h2.block (hk hb _ (by omega) (by omega)),h3.block (hk hb _ (by omega) (by omega)),hl h4 hb,Nat.le_trans hb k.size⟩
 ·exact .inr ⟨hc,acc,v,h1,h2.block (hk hb _ (by omega) (by omega)),h3.same fun j e hj=>hk hb j hj (.inr (h3.lt e).1),h4.block (hk hb _ (by omega) (by omega)),h5.block (hk hb _ (by omega) (by omega)),hl h6 hb,Nat.le_trans hb k.size⟩
theorem keep_put {s:Nat} (A:World) (k:Nat) (o:Obj) (h1:s+8≤k) (h2:k<s+10) (hb:s+10≤A.heap.size):KeepW [s+1,s+2,s+3,s+8,s+9] (s+3) A (A.putObj k o) :=
 ⟨⟨rfl,rfl,rfl,(put_but A k o).size⟩,fun j hj hx _=>(put_but A k o).block j hj (fun e=>hx (by simp at e; subst e; simp; omega)),fun j hm => .inl ((mine_same ((put_but A k o).block (s+3) (by omega) (by simp; omega)) j).1 hm)⟩
theorem res_cells {fn:Func} {p q:Tmp} (h:fn.results = #[.cell p 83,.cell q 39]) (tmps:Array Value) {w:World} {g1 g2:Nat} {v:Value} {e:Int} (hp:tmps.getD p undef = .pointer (some ⟨g1,0,none⟩)) (hq:tmps.getD q undef = .pointer (some ⟨g2,0,none⟩))
  (h1:RowV w g1 83 [v]) (h2:RowV w g2 39 [.int .i64 e]):(results fn tmps).run Tryz.prog w = .ok (.tuple #[v,.int .i64 e]) w:=by
 have hp':tmps[p]?.getD undef = .pointer (some ⟨g1,0,none⟩):=by simpa using hp
 have hq':tmps[q]?.getD undef = .pointer (some ⟨g2,0,none⟩):=by simpa using hq
 have c1:=h1.cellAt (i:=0) rfl
 have c2:=h2.cellAt (i:=0) rfl
 have l1:(loadVar 83 ⟨g1,0,none⟩).run Tryz.prog w = .ok v w:=by simp [loadVar,Tryz.underlying83,go_sem,c1]
 have l2:(loadVar 39 ⟨g2,0,none⟩).run Tryz.prog w = .ok (.int .i64 e) w:=by simp [loadVar,Tryz.underlying39,go_sem,c2]
 simp [results,h,hp',hq',asAddr,Sem.run_bind,Result.andThen,l1,l2]
theorem wi_push {w:World} {s:Nat} {most:Int} {pre:List (Itm×Nat)} {acc:List Itm} {v:Value} {C:World} (h:WI w s most pre acc v C) (x:Itm) {obj:Obj} {w1 W2:World} {v':Value} (ho:OwnJ w1 (s+10) v' (acc ++ [x]))
  (hg:(C.alloc obj).grownBy w1 v.ownBlock) (hb:v'.ownBlock=v.ownBlock∨v'.ownBlock=some (C.alloc obj).heap.size) (hW:W2=w1.setCell ⟨s+3,0,none⟩ v') :
  RowV W2 (s+3) 83 [v']∧OwnJ W2 (s+10) v' (acc ++ [x])∧RowV W2 s 3 [.int .i64 most]∧RowV W2 (s+1) 83 [.slice none 0 0]∧RowV W2 (s+2) 39 [.int .i64 0]∧Below s w W2∧s+10≤W2.heap.size∧Book (s+8) C W2∧KeepW [s+1,s+2,s+3,s+8,s+9] (s+3) C W2:=by
 have hbig:=h.big
 have hsz:(C.alloc obj).heap.size=C.heap.size+1:=World.size_alloc ..
 have hgs:=hg.size
 have hs2:W2.heap.size=w1.heap.size:=by rw [hW]; simp
 have al:=(Below.refl C.heap.size C).alloc (Nat.le_refl _) obj
 have k1 : ∀j,j<C.heap.size→v.ownBlock≠some j→w1.heap[j]?=C.heap[j]?:=fun j hj hn=>(hg.block j (by omega) (fun e=>hn e.symm)).trans (al.block j hj)
 have k2 : ∀j,j<C.heap.size→v.ownBlock≠some j→j≠s+3→W2.heap[j]?=C.heap[j]?:=fun j hj hn h3=>by rw [hW]; exact (heap_setCell_other _ _ _ _ h3).trans (k1 j hj hn)
 have low : ∀j,j<s+10→v.ownBlock≠some j:=fun j hj e=>by have:=(h.own.lt e).1; omega
 refine ⟨?_,?_,h.most.block (k2 _ (by omega) (low _ (by omega)) (by omega)),h.r1.block (k2 _ (by omega) (low _ (by omega)) (by omega)),h.r2.block (k2 _ (by omega) (low _ (by omega)) (by omega)),?_,by omega,⟨k2 _ (by omega) (low _ (by omega)) (by omega),k2 _ (by omega) (low _ (by omega)) (by omega)⟩,?_⟩
 ·rw [hW]
  exact (h.row.block (k1 _ (by omega) (low _ (by omega)))).set 0 v'
 ·exact ho.same fun j e hj=>by rw [hW]; exact heap_setCell_other _ _ _ _ (by have:=(ho.lt e).1; show j≠s+3; omega)
 ·refine h.low.trans ⟨?_,?_,?_,by omega,fun j hj=>k2 j (by omega) (low j (by omega)) (by omega)⟩
  ·rw [hW]; exact hg.os
  ·rw [hW]; exact hg.tape
  ·rw [hW]; exact hg.output
 ·refine ⟨⟨?_,?_,?_,by omega⟩,fun j hj hx hm=>k2 j hj (fun e=>hm ⟨v,h.row.cellAt (i:=0) rfl,e⟩) (fun e=>hx (by rw [e]; simp)),fun j ⟨u,hu,hj⟩ => ?_⟩
  ·rw [hW]; exact hg.os
  ·rw [hW]; exact hg.tape
  ·rw [hW]; exact hg.output
  ·have hr:RowV W2 (s+3) 83 [v']:=by
    rw [hW]
    exact (h.row.block (k1 _ (by omega) (low _ (by omega)))).set 0 v'
   rw [hr.cellAt (i:=0) rfl] at hu
   cases hu
   rcases hb with e | e
   ·exact .inl ⟨v,h.row.cellAt (i:=0) rfl,e.symm.trans hj⟩
   ·rw [hj] at e
    have:=Option.some.inj e
    exact .inr (by omega)
set_option maxHeartbeats 4000000 in
theorem walk_of {p:Option Addr} (root:Int) (fr tt:UInt64) (most:Int) (wayF:UInt64→WR) (hw : ∀k,(wayF k).e=0→k.toNat≤(wayF k).last.toNat∧(wayF k).vs.length=(wayF k).ks.length∧(wayF k).ks.length≤7) (w:World)
  (hdn : ∀W,Below w.heap.size w W → ∀k:UInt64,Calls Tryz.prog 117 #[.pointer p,.int .i64 root,.int .u64 (k.toNat:Int)] W (WayOut (wayF k) W))
  (L:List (Itm×Nat)) (hL:L=walkL wayF tt 18446744073709551616 fr) (hmost:most≤1000000∨L.length≤1000000) (r:List Itm×Nat) (hr:r=walkGo most [] L) :
  Calls Tryz.prog 55 #[.pointer p,.int .i64 root,.int .u64 (fr.toNat:Int),.int .u64 (tt.toNat:Int),.int .i64 most] w fun e w' =>
   ∃v,e = .returned (.tuple #[v,.int .i64 (r.2:Nat)])∧OwnJ w' w.heap.size v r.1∧Below w.heap.size w w':=by
 obtain ⟨i0,hi,hz0,hz1,hz2⟩:=info_parts item_info
 have HW:=hid hw
 have HDN:=hid hdn
 have HL:=hid hL
 have HM:=hid hmost
 have HR:=hid hr
 clear hw hdn hL hmost hr
 obtain ⟨s,hs⟩ : ∃s,w.heap.size=s:=⟨_,rfl⟩
 refine (callsIn_wide (n:=6)).1 ?_
 refine callsIn_of_wp_marks Tryz.func55 rfl trivial ?_ rfl
 simp only [Tryz.ntmps55,List.size_toArray,List.length_cons,List.length_nil,Nat.reduceAdd,Nat.reduceSub,Array.replicate_succ,Array.replicate_zero,List.push_toArray,List.append_toArray,List.nil_append,List.cons_append]
 gi_wp2_with (refine ⟨trivial,?_⟩; gi_at_call 119; refine (items_any _ p root fr tt _).mono ?_; rintro e w' ⟨rfl,rfl⟩)
 have r:=alloc_rowV w 3 [.int .i64 most]
 have k:=(Below.refl w.heap.size w).alloc (Nat.le_refl _) (.cells #[.int .i64 most] 3)
 have z:(w.alloc (.cells #[.int .i64 most] 3)).heap.size=s+1:=by rw [World.size_alloc,hs]
 rw [hs] at r
 skip
 generalize w.alloc (.cells #[.int .i64 most] 3)=w1 at *
 have hs1:=z
 have R0:=r
 have HB:=k
 clear r k z
 have r:=alloc_rowV w1 83 [.slice none 0 0]
 have k:=(Below.refl w1.heap.size w1).alloc (Nat.le_refl _) (.cells #[.slice none 0 0] 83)
 have z:(w1.alloc (.cells #[.slice none 0 0] 83)).heap.size=s+2:=by rw [World.size_alloc,hs1]
 rw [hs1] at r
 skip
 generalize w1.alloc (.cells #[.slice none 0 0] 83)=w2 at *
 have hs2:=z
 replace R0:=R0.below R0.lt k
 have R1:=r
 replace HB:=HB.trans (k.mono (by omega))
 clear r k z
 have r:=alloc_rowV w2 39 [.int .i64 0]
 have k:=(Below.refl w2.heap.size w2).alloc (Nat.le_refl _) (.cells #[.int .i64 0] 39)
 have z:(w2.alloc (.cells #[.int .i64 0] 39)).heap.size=s+3:=by rw [World.size_alloc,hs2]
 rw [hs2] at r
 skip
 generalize w2.alloc (.cells #[.int .i64 0] 39)=w3 at *
 have hs3:=z
 replace R0:=R0.below R0.lt k
 replace R1:=R1.below R1.lt k
 have R2:=r
 replace HB:=HB.trans (k.mono (by omega))
 clear r k z
 have r:=alloc_rowV w3 83 [.slice none 0 0]
 have k:=(Below.refl w3.heap.size w3).alloc (Nat.le_refl _) (.cells #[.slice none 0 0] 83)
 have z:(w3.alloc (.cells #[.slice none 0 0] 83)).heap.size=s+4:=by rw [World.size_alloc,hs3]
 rw [hs3] at r
 skip
 generalize w3.alloc (.cells #[.slice none 0 0] 83)=w4 at *
 have hs4:=z
 replace R0:=R0.below R0.lt k
 replace R1:=R1.below R1.lt k
 replace R2:=R2.below R2.lt k
 have R3:=r
 replace HB:=HB.trans (k.mono (by omega))
 clear r k z
 have r:=alloc_rowV w4 24 [.pointer p]
 have k:=(Below.refl w4.heap.size w4).alloc (Nat.le_refl _) (.cells #[.pointer p] 24)
 have z:(w4.alloc (.cells #[.pointer p] 24)).heap.size=s+5:=by rw [World.size_alloc,hs4]
 rw [hs4] at r
 skip
 generalize w4.alloc (.cells #[.pointer p] 24)=w5 at *
 have hs5:=z
 replace R0:=R0.below R0.lt k
 replace R1:=R1.below R1.lt k
 replace R2:=R2.below R2.lt k
 replace R3:=R3.below R3.lt k
 have R4:=r
 replace HB:=HB.trans (k.mono (by omega))
 clear r k z
 have r:=alloc_rowV w5 3 [.int .i64 root]
 have k:=(Below.refl w5.heap.size w5).alloc (Nat.le_refl _) (.cells #[.int .i64 root] 3)
 have z:(w5.alloc (.cells #[.int .i64 root] 3)).heap.size=s+6:=by rw [World.size_alloc,hs5]
 rw [hs5] at r
 skip
 generalize w5.alloc (.cells #[.int .i64 root] 3)=w6 at *
 have hs6:=z
 replace R0:=R0.below R0.lt k
 replace R1:=R1.below R1.lt k
 replace R2:=R2.below R2.lt k
 replace R3:=R3.below R3.lt k
 replace R4:=R4.below R4.lt k
 have R5:=r
 replace HB:=HB.trans (k.mono (by omega))
 clear r k z
 have r:=alloc_rowV w6 30 [.int .u64 (fr.toNat:Int)]
 have k:=(Below.refl w6.heap.size w6).alloc (Nat.le_refl _) (.cells #[.int .u64 (fr.toNat:Int)] 30)
 have z:(w6.alloc (.cells #[.int .u64 (fr.toNat:Int)] 30)).heap.size=s+7:=by rw [World.size_alloc,hs6]
 rw [hs6] at r
 skip
 generalize w6.alloc (.cells #[.int .u64 (fr.toNat:Int)] 30)=w7 at *
 have hs7:=z
 replace R0:=R0.below R0.lt k
 replace R1:=R1.below R1.lt k
 replace R2:=R2.below R2.lt k
 replace R3:=R3.below R3.lt k
 replace R4:=R4.below R4.lt k
 replace R5:=R5.below R5.lt k
 have R6:=r
 replace HB:=HB.trans (k.mono (by omega))
 clear r k z
 have r:=alloc_rowV w7 30 [.int .u64 (tt.toNat:Int)]
 have k:=(Below.refl w7.heap.size w7).alloc (Nat.le_refl _) (.cells #[.int .u64 (tt.toNat:Int)] 30)
 have z:(w7.alloc (.cells #[.int .u64 (tt.toNat:Int)] 30)).heap.size=s+8:=by rw [World.size_alloc,hs7]
 rw [hs7] at r
 skip
 generalize w7.alloc (.cells #[.int .u64 (tt.toNat:Int)] 30)=w8 at *
 have hs8:=z
 replace R0:=R0.below R0.lt k
 replace R1:=R1.below R1.lt k
 replace R2:=R2.below R2.lt k
 replace R3:=R3.below R3.lt k
 replace R4:=R4.below R4.lt k
 replace R5:=R5.below R5.lt k
 replace R6:=R6.below R6.lt k
 have R7:=r
 replace HB:=HB.trans (k.mono (by omega))
 clear r k z
 simp only [Nat.add_assoc,Nat.reduceAdd]
 rw [hs] at HB HDN
 have HBw:=hid HB
 have HRR:=hid (And.intro R0 (And.intro R1 (And.intro R2 (And.intro R3 (And.intro R4 (And.intro R5 (And.intro R6 R7)))))))
 have hlist : ∀x ∈ [s+6],s+4≤x∧x<s+10:=fun x hx=>by simp at hx; omega
 clear HB R0 R1 R2 R3 R4 R5 R6 R7 hs1 hs2 hs3 hs4 hs5 hs6 hs7
 refine range_own (s+8) hs8 rfl (by decide) (gf := 173) (lb := #[.pointer (some ⟨s+4,0,none⟩),.pointer (some ⟨s+5,0,none⟩),.pointer (some ⟨s+6,0,none⟩),.pointer (some ⟨s+7,0,none⟩)]) rfl trivial (enters_of Tryz.func173 (by kernel_rfl) rfl)
  (encs:=encI) (fun _=>rfl) (s+6) (by omega) (KeepW [s+1,s+2,s+3,s+8,s+9] (s+3)) (fun pre x=>pre ++ [x] <+: L) (fun xs=>xs=L) (fun pre A => ∃acc v,WI w s most pre acc v A) (fun c _ A=>WX w s most L c A) ?seq
  (fun _ A B ⟨acc,v,h⟩ k=>⟨acc,v,h.but k hlist⟩) (fun _ _ A B h k=>h.but k hlist)
  (fun _ A k o ⟨acc,v,h⟩ h1 h2 _=>⟨acc,v,h.but (put_but A k o) (fun x hx=>by simp at hx; omega)⟩) (fun _ _ A k o h h1 h2 _=>h.but (put_but A k o) (fun x hx=>by simp at hx; omega))
  KeepW.trans (fun A k o h1 h2 h3=>keep_put A k o h1 h2 h3) ?h0 ?round ?done ?stop
 case seq =>
  intro J Jx W hB hJI hJ hJx hY hJ0
  have hsz:=hB.size
  have row : ∀ {g:Nat} {T:TypeId} {vs:List Value},RowV w8 g T vs→RowV W g T vs:=fun h=>h.block (hB.block _ h.lt (by simp))
  obtain ⟨_,_,_,_,q4,q5,q6,q7⟩:=HRR.out
  exact items1 (n:=5) (by decide) (s+9) (s+4) (s+5) (s+6) (s+7) s (s+10) (s+3) [s+1,s+2,s+3,s+8,s+9] (.pointer p) root tt fr wayF HW.out W
   (fun W' hW' k=>HDN.out W' ((HBw.out.trans (hB.below (B:=s) (by simp) (by omega))).trans hW') k)
   (fun k hk=>by simp at hk; omega) (by simp) ⟨by omega,by omega,by omega,by omega,by omega,by omega,by omega⟩ ⟨by simp,by simp,by simp,by simp⟩ ⟨by omega,by omega,by omega,by omega⟩
   J Jx hJ hJx (fun pre A h=>by
    obtain ⟨⟨acc,v,hW⟩,hsz⟩:=hJI pre A h
    refine ⟨fun k ⟨u,hu,hk⟩ => ?_,fun k hk=>by simp at hk; omega⟩
    rw [hW.row.cellAt (i:=0) rfl] at hu
    cases hu
    exact hW.own.lt hk) L HL.out hY W (Below.refl _ _) (by omega) ⟨row q4,row q5,row q7⟩ (row q6) hJ0
 case h0 =>
  intro W hB hsz
  have row : ∀ {g:Nat} {T:TypeId} {vs:List Value},RowV w8 g T vs→RowV W g T vs:=fun h=>h.block (hB.block _ h.lt (by simp))
  obtain ⟨q0,q1,q2,q3,_⟩:=HRR.out
  exact ⟨[],_,fun r=>rfl,⟨Nat.zero_le _,.inl rfl⟩,row q3,OwnJ.nil _ _,row q0,row q1,row q2,HBw.out.trans (hB.below (B:=s) (by simp) (by omega)),by omega⟩
 case round =>
  rintro pre ⟨⟨kx,vx⟩,ex⟩ A ⟨acc,v,hWI⟩ hpre hA
  have HWI:=hid hWI
  have HPR:=hid hpre
  clear hWI hpre
  simp only [encI]
  gi_wp2
  have b13:=(Below.refl A.heap.size A).alloc (Nat.le_refl _) (.cells #[.int .u64 (kx.toNat:Int),.int .u64 (vx.toNat:Int)] 104)
  have r13:=alloc_rowV A 104 [.int .u64 (kx.toNat:Int),.int .u64 (vx.toNat:Int)]
  have hb:=HWI.out.big
  have s13:(A.alloc (.cells #[.int .u64 (kx.toNat:Int),.int .u64 (vx.toNat:Int)] 104)).heap.size=A.heap.size+1:=World.size_alloc ..
  refine ⟨⟨b13.block _ (by omega),b13.block _ (by omega)⟩,KeepW.of_below b13 (Nat.le_refl _) (by omega),by omega,?_⟩
  rintro o C hC
  obtain ⟨X13,hX13⟩ : ∃X,X=A.heap.size:=⟨_,rfl⟩
  have pb:=put_but (A.alloc (.cells #[.int .u64 (kx.toNat:Int),.int .u64 (vx.toNat:Int)] 104)) (s+9) o
  have HC:=hid (show WI w s most pre acc v C∧RowV C X13 104 [.int .u64 (kx.toNat:Int),.int .u64 (vx.toNat:Int)] by
   rw [hC,hX13]
   exact ⟨(HWI.out.but (ButL.of_below [] b13 (Nat.le_refl _)) (by simp)).but pb (fun x hx=>by simp at hx; omega),r13.block (pb.block _ (by omega) (by simp only [List.mem_singleton]; omega))⟩)
  rw [← hX13]
  clear b13 r13 hb s13 pb hX13 hC HWI
  obtain ⟨rr,hrr⟩:=HPR.out
  have HLr:=hid (show walkGo most [] L=walkGo most acc (((kx,vx),ex) :: rr) by rw [← hrr,List.append_assoc]; exact HC.out.1.go _)
  have HLn:=hid (show pre.length+1≤L.length by rw [← hrr,List.length_append,List.length_append]; show _≤pre.length+1+_; omega)
  clear hrr
  have cm:=HC.out.1.most.cellAt (i:=0) rfl
  have c12:=HC.out.1.row.cellAt (i:=0) rfl
  have c1:=HC.out.1.r1.cellAt (i:=0) rfl
  have c2:=HC.out.1.r2.cellAt (i:=0) rfl
  have f1:=HC.out.1.r1.free 0
  have f2:=HC.out.1.r2.free 0
  have f12:=HC.out.1.row.free 0
  have c130:=HC.out.2.cellAt (i:=0) rfl
  have c131:=HC.out.2.cellAt (i:=1) rfl
  by_cases hex:ex=0
  ·subst hex
   have hbg:=HC.out.1.big
   by_cases hm:0<most
   ·have hmi:decide (0<most)=true:=decide_eq_true hm
    have hm1:acc.length+1≤1000000:=by
     have h1:=HC.out.1.few
     have h2:=HLn.out
     rcases HM.out with q | q
     ·rcases h1.2 with z | z
      ·rw [z]; decide
      ·omega
     ·omega
    have hm2:acc.length+1≤maxLen:=by unfold maxLen; omega
    have hm3:(acc.length+1)*16≤140737488355328:=by omega
    have bo:=(Below.refl C.heap.size C).alloc (Nat.le_refl _) (.cells #[.int .u64 (kx.toNat:Int),.int .u64 (vx.toNat:Int)] 104)
    have hown:=HC.out.1.own.kept bo (Nat.le_refl _)
    have ro:=alloc_rowV C 104 [.int .u64 (kx.toNat:Int),.int .u64 (vx.toNat:Int)]
    by_cases hge:most≤(acc.length:Int)+1
    ·have hgi:decide (most≤(acc.length:Int)+1)=true:=decide_eq_true hge
     have hown2:(C.alloc (.cells #[.int .u64 (kx.toNat:Int),.int .u64 (vx.toNat:Int)] 104)).ownsRow (s+10) 104 2 v acc.length (ivs acc):=hown
     have hnews : ∀j u,([.int .u64 (kx.toNat:Int),.int .u64 (vx.toNat:Int)]:List Value)[j]?=some u→(C.alloc (.cells #[.int .u64 (kx.toNat:Int),.int .u64 (vx.toNat:Int)] 104)).cell? ((⟨C.heap.size,0,none⟩:Addr).add j)=some u:=fun j u hj=>by
      rw [add_plain]
      exact ro.has.cellAt hj
     have hones : ∀u∈([.int .u64 (kx.toNat:Int),.int .u64 (vx.toNat:Int)]:List Value),u.oneCell'=true:=by simp [Value.oneCell']
     gi_upto_region 8 with (fail)
     have hs3:s+3<C.heap.size:=by omega
     gi_wp2_with (gi_at_builtin; refine wpListIn_append_own_at _ rfl _ _ 83 rfl (s+10) 104 i0 (.agg #[.int .u64 0,.int .u64 0]) 2 16 Tryz.underlying83 hi hz0 hz1 hz2 rfl (by decide) v acc.length (ivs acc) rfl hown2 ⟨C.heap.size,0,none⟩ 1 1 [.int .u64 (kx.toNat:Int),.int .u64 (vx.toNat:Int)] rfl rfl hnews hones hm2 hm3 (by rw [World.size_alloc]; omega) ?_; intro v' w1 hown' hgrow _ hblk; have ho:OwnJ w1 (s+10) v' (acc ++ [(kx,vx)]):=(by unfold OwnJ; rw [List.length_append,ivs_append]; exact hown'); obtain ⟨g',cap',rfl⟩:=ownsRow_succ hown'; have hr12:=HC.out.1.row.block ((hgrow.block (s+3) (by rw [World.size_alloc]; omega) (fun e=>(by have:=(HC.out.1.own.lt e.symm).1; omega))).trans (bo.block (s+3) hs3)); have c12b:=hr12.cellAt (i:=0) rfl; have f12b:=hr12.free 0; have P:=wi_push HC.out.1 (kx,vx) ho hgrow hblk rfl; have cmb:=P.2.2.1.cellAt (i:=0) rfl; have c12c:=P.1.cellAt (i:=0) rfl)
     obtain ⟨p1,p2,p3,p4,p5,p6,p7,p8,p9⟩:=P
     refine ⟨p8,.inr ⟨rfl,acc ++ [(kx,vx)],_,?_,p1,p2,p4,p5,p6,p7⟩⟩
     rw [HLr.out]
     show (if (0:Nat)≠0 then _ else _)=_
     rw [if_neg (by decide),if_pos hm,if_pos (by rw [List.length_append]; show most≤((acc.length+1:Nat):Int); omega)]
    ·have hgi:decide (most≤(acc.length:Int)+1)=false:=decide_eq_false hge
     have hown2:(C.alloc (.cells #[.int .u64 (kx.toNat:Int),.int .u64 (vx.toNat:Int)] 104)).ownsRow (s+10) 104 2 v acc.length (ivs acc):=hown
     have hnews : ∀j u,([.int .u64 (kx.toNat:Int),.int .u64 (vx.toNat:Int)]:List Value)[j]?=some u→(C.alloc (.cells #[.int .u64 (kx.toNat:Int),.int .u64 (vx.toNat:Int)] 104)).cell? ((⟨C.heap.size,0,none⟩:Addr).add j)=some u:=fun j u hj=>by
      rw [add_plain]
      exact ro.has.cellAt hj
     have hones : ∀u∈([.int .u64 (kx.toNat:Int),.int .u64 (vx.toNat:Int)]:List Value),u.oneCell'=true:=by simp [Value.oneCell']
     gi_upto_region 8 with (fail)
     have hs3:s+3<C.heap.size:=by omega
     gi_wp2_with (gi_at_builtin; refine wpListIn_append_own_at _ rfl _ _ 83 rfl (s+10) 104 i0 (.agg #[.int .u64 0,.int .u64 0]) 2 16 Tryz.underlying83 hi hz0 hz1 hz2 rfl (by decide) v acc.length (ivs acc) rfl hown2 ⟨C.heap.size,0,none⟩ 1 1 [.int .u64 (kx.toNat:Int),.int .u64 (vx.toNat:Int)] rfl rfl hnews hones hm2 hm3 (by rw [World.size_alloc]; omega) ?_; intro v' w1 hown' hgrow _ hblk; have ho:OwnJ w1 (s+10) v' (acc ++ [(kx,vx)]):=(by unfold OwnJ; rw [List.length_append,ivs_append]; exact hown'); obtain ⟨g',cap',rfl⟩:=ownsRow_succ hown'; have hr12:=HC.out.1.row.block ((hgrow.block (s+3) (by rw [World.size_alloc]; omega) (fun e=>(by have:=(HC.out.1.own.lt e.symm).1; omega))).trans (bo.block (s+3) hs3)); have c12b:=hr12.cellAt (i:=0) rfl; have f12b:=hr12.free 0; have P:=wi_push HC.out.1 (kx,vx) ho hgrow hblk rfl; have cmb:=P.2.2.1.cellAt (i:=0) rfl; have c12c:=P.1.cellAt (i:=0) rfl)
     obtain ⟨p1,p2,p3,p4,p5,p6,p7,p8,p9⟩:=P
     refine ⟨p8,p9,acc ++ [(kx,vx)],_,?_,?_,p1,p2,p3,p4,p5,p6,p7⟩
     ·intro r2
      rw [List.append_assoc,HC.out.1.go]
      show (if (0:Nat)≠0 then _ else _)=_
      rw [if_neg (by decide),if_pos hm,if_neg (by rw [List.length_append]; show ¬most≤((acc.length+1:Nat):Int); omega)]
      rfl
     ·have hf:=HC.out.1.few.1
      rw [List.length_append,List.length_append]
      exact ⟨by show acc.length+1≤pre.length+1; omega,.inr (by show ((acc.length+1:Nat):Int)<most; omega)⟩
   ·have hmi:decide (0<most)=false:=decide_eq_false hm
    have hacc:acc = []:=by
     rcases HC.out.1.few.2 with q | q
     ·exact q
     ·omega
    subst hacc
    obtain ⟨A',c',rfl,hir,_⟩:=HC.out.1.own.slice
    have hge:most≤0:=by omega
    have hgi:decide (most≤0)=true:=decide_eq_true hge
    have hl0:(([]:List Itm).length:Int)=0:=rfl
    gi_wp2
    refine ⟨Book.refl _ _,.inr ⟨rfl,[],_,?_,HC.out.1.row,HC.out.1.own,HC.out.1.r1,HC.out.1.r2,HC.out.1.low,hbg⟩⟩
    rw [HLr.out]
    show (if (0:Nat)≠0 then _ else _)=_
    rw [if_neg (by decide),if_neg (show ¬(0<most) by omega),if_pos (by show most≤((([]:List Itm).length:Nat):Int); exact hge)]
  ·have hei : ¬(((ex:Nat):Int)=0):=by omega
   gi_wp2
   refine ⟨⟨(heap_setCell_other _ _ _ _ (show s+8≠s+2 by omega)).trans (heap_setCell_other _ _ _ _ (show s+8≠s+1 by omega)),(heap_setCell_other _ _ _ _ (show s+8+1≠s+2 by omega)).trans (heap_setCell_other _ _ _ _ (show s+8+1≠s+1 by omega))⟩,.inl ⟨rfl,ex,?_,(HC.out.1.r1.set 0 _).other (by omega),(HC.out.1.r2.other (q:=s+1) (by omega)).set 0 _,(HC.out.1.low.setCell (p:=⟨s+1,0,none⟩) (by show s≤s+1; omega) _).setCell (p:=⟨s+2,0,none⟩) (by show s≤s+2; omega) _,by have:=HC.out.1.big; simpa using this⟩⟩
   rw [HLr.out]
   show (if ex≠0 then _ else _)=_
   rw [if_pos hex]
 case done =>
  rintro xs W rfl ⟨acc,v,hWI⟩ hK
  have hgo:=hWI.go []
  rw [List.append_nil] at hgo
  obtain ⟨A',c',rfl,hir,_⟩:=hWI.own.slice
  have c12:=hWI.row.cellAt (i:=0) rfl
  have c1:=hWI.r1.cellAt (i:=0) rfl
  have c2:=hWI.r2.cellAt (i:=0) rfl
  have f1:=hWI.r1.free 0
  have f2:=hWI.r2.free 0
  gi_wp2
  have q1:=ButL.set W (s+1) 0 (.slice A' acc.length c')
  have q2:=ButL.set (W.setCell ⟨s+1,0,none⟩ (.slice A' acc.length c')) (s+2) 0 (.int .i64 0)
  have hbW:=hWI.big
  have hK2:=((q2.block (s+8) (by have:=q1.size; omega) (by simp only [List.mem_singleton]; omega)).trans (q1.block (s+8) (by omega) (by simp only [List.mem_singleton]; omega))).trans hK
  refine ⟨by simp,.inl ⟨_,_,rfl,run_takeDeferred hK2,?_⟩⟩
  have pb:=put_but ((W.setCell ⟨s+1,0,none⟩ (.slice A' acc.length c')).setCell ⟨s+2,0,none⟩ (.int .i64 0)) (s+8) (.deferred none)
  have q12:=q1.size
  have q22:=q2.size
  refine ⟨_,res_cells rfl _ rfl rfl (((hWI.r1.set 0 _).other (q:=s+2) (by omega)).block (pb.block _ (by omega) (by simp only [List.mem_singleton]; omega))) ((((hWI.r2.other (q:=s+1) (by omega))).set 0 _).block (pb.block _ (by omega) (by simp only [List.mem_singleton]; omega))),.slice A' acc.length c',?_,?_,?_⟩
  ·rw [HR.out,hgo]
   rfl
  ·rw [HR.out,hgo]
   refine OwnJ.mono (hWI.own.same fun j e hj => ?_) (by omega)
   have hj2:=(hWI.own.lt e).1
   exact (pb.block j (by omega) (by simp only [List.mem_singleton]; omega)).trans ((q2.block j (by omega) (by simp only [List.mem_singleton]; omega)).trans (q1.block j hj (by simp only [List.mem_singleton]; omega)))
  ·rw [hs]
   exact hWI.low.trans ((q1.below (B:=s) (by simp) (by omega)).trans ((q2.below (B:=s) (by simp) (by omega)).trans (pb.below (B:=s) (by simp) (by omega))))
 case stop =>
  rintro k pre W (⟨rfl,e,h1,h2,h3,h4,h5⟩ | ⟨rfl,acc,v,h1,h2,h3,h4,h5,h6,h7⟩) hK
  ·have c1:=h2.cellAt (i:=0) rfl
   have c2:=h3.cellAt (i:=0) rfl
   gi_wp2
   refine ⟨by simp,.inl ⟨_,_,rfl,run_takeDeferred hK,?_⟩⟩
   have pb:=put_but W (s+8) (.deferred none)
   have hb:=h5
   refine ⟨_,res_cells rfl _ rfl rfl (h2.block (pb.block _ (by omega) (by simp only [List.mem_singleton]; omega))) (h3.block (pb.block _ (by omega) (by simp only [List.mem_singleton]; omega))),(.slice none 0 0),?_,?_,?_⟩
   ·rw [HR.out,h1]
   ·rw [HR.out,h1]
    exact OwnJ.nil _ _
   ·rw [hs]
    exact h4.trans (pb.below (B:=s) (by simp) (by omega))
  ·obtain ⟨A',c',rfl,hir,_⟩:=h3.slice
   have c12:=h2.cellAt (i:=0) rfl
   have c1:=h4.cellAt (i:=0) rfl
   have c2:=h5.cellAt (i:=0) rfl
   have f1:=h4.free 0
   have f2:=h5.free 0
   gi_wp2
   have q1:=ButL.set W (s+1) 0 (.slice A' acc.length c')
   have q2:=ButL.set (W.setCell ⟨s+1,0,none⟩ (.slice A' acc.length c')) (s+2) 0 (.int .i64 0)
   have q12:=q1.size
   have q22:=q2.size
   have hK2:=((q2.block (s+8) (by omega) (by simp only [List.mem_singleton]; omega)).trans (q1.block (s+8) (by omega) (by simp only [List.mem_singleton]; omega))).trans hK
   refine ⟨by simp,.inl ⟨_,_,rfl,run_takeDeferred hK2,?_⟩⟩
   have pb:=put_but ((W.setCell ⟨s+1,0,none⟩ (.slice A' acc.length c')).setCell ⟨s+2,0,none⟩ (.int .i64 0)) (s+8) (.deferred none)
   refine ⟨_,res_cells rfl _ rfl rfl (((h4.set 0 _).other (q:=s+2) (by omega)).block (pb.block _ (by omega) (by simp only [List.mem_singleton]; omega))) ((((h5.other (q:=s+1) (by omega))).set 0 _).block (pb.block _ (by omega) (by simp only [List.mem_singleton]; omega))),.slice A' acc.length c',?_,?_,?_⟩
   ·rw [HR.out,h1]
    rfl
   ·rw [HR.out,h1]
    refine OwnJ.mono (h3.same fun j e hj => ?_) (by omega)
    have hj2:=(h3.lt e).1
    exact (pb.block j (by omega) (by simp only [List.mem_singleton]; omega)).trans ((q2.block j (by omega) (by simp only [List.mem_singleton]; omega)).trans (q1.block j hj (by simp only [List.mem_singleton]; omega)))
   ·rw [hs]
    exact h6.trans ((q1.below (B:=s) (by simp) (by omega)).trans ((q2.below (B:=s) (by simp) (by omega)).trans (pb.below (B:=s) (by simp) (by omega))))
end Go.Proofs.YtogchamogbendaaGreat.Bs
namespace Go.Proofs.YtogchamogbendaaGreat.Bs
open Go.RowKit Oct Mv Tl Pk Pl Go.Maps Go.ChangeMaps
open Lf (Nd Fit nodePage RowN ToldN Rises)
open No (atR at_any)
open Ix (idxPage)
def fq1:Q:=(q0 40).took 2
def fq2:Q:=fq1.took 3
theorem fq0_ok:(q0 40).Ok:=⟨.new (by omega) (by omega),by show 2≤(St.new 40).n; rw [n_new]; omega,Nat.le_refl _,.inr rfl,Nat.zero_le _⟩
theorem fm1:Moved (q0 40) 0 fq1 2:=⟨by rw [down1_zero]; exact found_seek fq0_ok (by decide),by rw [down1_zero]; rfl⟩
theorem fq1_ok:fq1.Ok:=fq0_ok.took (by have:=fm1.1; rwa [down1_zero] at this)
theorem fm2:Moved fq1 0 fq2 3:=⟨by rw [down1_zero]; exact found_seek fq1_ok (by decide),by rw [down1_zero]; rfl⟩
def fY:Wk:=⟨fq2,[2],[true],[3],[true]⟩
theorem frun:(Pl.begin (q0 40) [0] [0]).Runs fY:=runs_both (.inl rfl) fm1 fm2
theorem fw_y {y:Wk} (h:Begun0 40 y):y=fY:=Wk.Runs.uniq h frun
theorem fw_found {b:Nat} (h:(made0 40 fY).q.Found b):b=4:=by
 have hok:(made0 40 fY).q.Ok:=⟨⟨rfl,by decide,by decide⟩,by decide,by decide,by decide,by decide⟩
 exact found_one h (found_seek hok (by decide))
theorem fw_room:(made0 40 fY).q.room=36∧(made0 40 fY).n=40∧need 40=2:=by decide
theorem not_holds {k:UInt8} (hk:k≠1∧k≠2) (l:List UInt16) : ¬Lf.Holds (idxPage k l):=fun h=>by
 have e:nodePage _ _ _=idxPage k l:=h.2.2.2.2
 have e2:=congrArg List.head? e
 have e3:Lf.kindN (Lf.leafIn (idxPage k l))=k:=Option.some.inj e2
 unfold Lf.kindN at e3
 split at e3
 ·exact hk.1 e3.symm
 ·exact hk.2 e3.symm
theorem fw_two (hr:Begun0 40 fY) : ¬Lf.Holds ((made0 40 fY).has 2):=by
 have hg:=made_good (by omega) (by omega) hr
 have hp:=(hg.opens.pages.cnt 0 (by decide)).2.2
 rw [show (made0 40 fY).has 2=(made0 40 fY).D.says ((made0 40 fY).l1.getD 0 0) from rfl,hp]
 exact not_holds (by decide) _
theorem has_put (x:BS) (b:Nat) (bs:List UInt8) (i:Nat):(x.put b bs).has i=if i=b then bs else x.has i:=by
 unfold BS.has
 show ((if i=b then some bs else x.fr i).getD (x.D.says i))=_
 split <;> rfl
theorem fit_leaf:Fit true [2,5] [20,50]:=by decide
theorem fit_two:Fit false [0,5] [4,9]:=by decide
def leafW:WR:=⟨true,[2,5],[20,50],1,maxU,0⟩
section
variable {x:BS}
theorem fw_down (hn:nodeR x 40 (4:Int)=⟨true,[2,5],[20,50],0⟩) (key:UInt64):downR x 40 4 key=leafW:=by
 unfold downR
 rw [if_neg (by decide)]
 show (if (nodeR x 40 (4:Int)).e≠0 then _ else _)=_
 rw [hn]
 rfl
theorem fw_zero (key:UInt64):downR x 40 0 key=⟨true,[],[],0,maxU,0⟩:=by
 unfold downR
 rw [if_pos rfl]
theorem fw_right0:rightR x 40 0=true:=by
 unfold rightR
 rw [fw_zero]
 rfl
theorem fw_right (hn:nodeR x 40 (4:Int)=⟨true,[2,5],[20,50],0⟩):rightR x 40 4=true:=by
 unfold rightR
 rw [fw_down hn]
 show rightF x 40 1 4 1 0 maxU=true
 show (decide _&&(_&&_))=true
 rw [hn]
 rfl
theorem fits_few (T:UInt64):fitsR true [2,5] 1 3 0 T=false:=by
 unfold fitsR
 rw [show decide ((3:Nat) ≤ [(2:UInt64),5].length)=false from rfl]
 simp
theorem fw_four:IntKind.i64.wrap (((4:UInt64).toNat:Nat):Int)=(4:Int):=by
 rw [show (((4:UInt64).toNat:Nat):Int)=4 from rfl]
 exact wrap_i64 (by omega) (by omega)
theorem fw_at:(atR false [0,5] [4,9] 0).1=0:=by decide
theorem downF_kid {n:Nat} {key:UInt64} {f lv:Nat} {z z':Int} {en v:UInt64} {ks vs:List UInt64} {i:Nat} (hn:nodeR x n z=⟨false,ks,vs,0⟩) (hi:(atR false ks vs key).1=i) (hv:vs.getD i 0=v) (hz:IntKind.i64.wrap (v.toNat:Int)=z') :
  downF x n key (f+1) lv z en=downF x n key f (lv+1) z' (lastR ks i en):=by
 show (if (nodeR x n z).e≠0 then _ else _)=_
 rw [hn,if_neg (fun q=>q rfl)]
 show (if false=true then _ else _)=_
 rw [if_neg (by decide),hi]
 show downF x n key f (lv+1) (IntKind.i64.wrap ((vs.getD i 0).toNat:Int)) (lastR ks i en)=_
 rw [hv,hz]
theorem downF_leaf {n:Nat} {key:UInt64} {f lv:Nat} {z:Int} {en:UInt64} {ks vs:List UInt64} (hn:nodeR x n z=⟨true,ks,vs,0⟩):downF x n key (f+1) lv z en=⟨true,ks,vs,lv+1,en,0⟩:=by
 show (if (nodeR x n z).e≠0 then _ else _)=_
 rw [hn,if_neg (fun q=>q rfl)]
 rfl
theorem fw_wrong1 {b:Nat} (hb:nodeR x 40 (b:Int)=⟨false,[0,5],[4,9],0⟩) (hn:nodeR x 40 (4:Int)=⟨true,[2,5],[20,50],0⟩) (h0:b≠0) : ∃T,downR x 40 b 0=⟨true,[2,5],[20,50],2,T,0⟩:=by
 unfold downR
 rw [if_neg (by omega)]
 generalize maxU=M
 show ∃T,downF x 40 0 (7+1) 0 (b:Int) M=_
 rw [downF_kid hb fw_at rfl fw_four]
 show ∃T,downF x 40 0 (6+1) (0+1) 4 _=_
 rw [downF_leaf hn]
 exact ⟨_,rfl⟩
theorem fw_few (hn:nodeR x 40 (4:Int)=⟨true,[2,5],[20,50],0⟩) (T:UInt64):rightF x 40 1 4 3 0 T=false:=by
 show (decide ((nodeR x 40 (4:Int)).e=0)&&(fitsR (nodeR x 40 (4:Int)).l (nodeR x 40 (4:Int)).ks 1 3 0 T&&_))=false
 rw [hn]
 show (true&&(fitsR true [2,5] 1 3 0 T&&_))=false
 rw [fits_few]
 rfl
theorem fw_wrong {b:Nat} (hb:nodeR x 40 (b:Int)=⟨false,[0,5],[4,9],0⟩) (hn:nodeR x 40 (4:Int)=⟨true,[2,5],[20,50],0⟩) (h0:b≠0):rightR x 40 b=false:=by
 obtain ⟨T,hd⟩:=fw_wrong1 hb hn h0
 unfold rightR
 rw [hd]
 generalize maxU=M
 show rightF x 40 (1+1) b 2 0 M=false
 have ha:((List.range 2).all fun i=>rightF x 40 1 (IntKind.i64.wrap ((([4,9].getD i 0:UInt64).toNat:Nat):Int)) 3 ([0,5].getD i 0) (lastR [0,5] i M))=false:=by
  refine all_not (i:=0) (by omega) ?_
  show rightF x 40 1 (IntKind.i64.wrap (((4:UInt64).toNat:Nat):Int)) 3 0 (lastR [0,5] 0 M)=false
  rw [fw_four]
  exact fw_few hn _
 show (decide ((nodeR x 40 (b:Int)).e=0)&&(fitsR (nodeR x 40 (b:Int)).l (nodeR x 40 (b:Int)).ks (1+1) 2 0 M&&((nodeR x 40 (b:Int)).l||(List.range (nodeR x 40 (b:Int)).vs.length).all fun i =>
   rightF x 40 1 (IntKind.i64.wrap (((nodeR x 40 (b:Int)).vs.getD i 0).toNat:Int)) 3 ((nodeR x 40 (b:Int)).ks.getD i 0) (lastR (nodeR x 40 (b:Int)).ks i M))))=false
 rw [hb]
 show (true&&(fitsR false [0,5] (1+1) 2 0 M&&(false||((List.range 2).all fun i=>rightF x 40 1 (IntKind.i64.wrap ((([4,9].getD i 0:UInt64).toNat:Nat):Int)) 3 ([0,5].getD i 0) (lastR [0,5] i M)))))=false
 rw [ha]
 cases fitsR false [0,5] (1+1) 2 0 M <;> rfl
end
theorem fw_get:getF leafW 5=(50,true,0):=by
 unfold getF leafW
 rw [if_neg (by decide)]
 rw [if_pos (by decide)]
 rfl
theorem fw_get0 (key:UInt64):getF ⟨true,[],[],0,maxU,0⟩ key=(0,false,0):=by
 unfold getF
 rw [if_neg (by decide),if_neg]
 unfold atR
 rw [if_pos (by decide)]
 simp
theorem walkL_one (wayF:UInt64→WR) (tt fr:UInt64) (t:WR) (ht:wayF fr=t) (he:t.e=0) (hl:tt.toNat≤t.last.toNat):walkL wayF tt 18446744073709551616 fr=(leafRun t fr tt).map (fun p=>(p,0)):=by
 show walkL wayF tt (18446744073709551615+1) fr=_
 show (if (wayF fr).e≠0 then _ else _)=_
 rw [ht,if_neg (fun q=>q he)]
 rw [if_pos hl,List.append_nil]
theorem fw_run1:leafRun leafW 0 9 = [(2,20),(5,50)]:=by decide
theorem fw_run2:leafRun leafW 3 9 = [(5,50)]:=by decide
end Go.Proofs.YtogchamogbendaaGreat.Bs
namespace Go.Proofs.YtogchamogbendaaGreat.Bs
open Go.RowKit Oct Mv Tl Pk Pl Go.Maps Go.ChangeMaps
open Lf (Nd Fit nodePage RowN ToldN Rises)
open No (atR at_any)
theorem room_need {x:BS} (hn:x.n=40) (hr:2<x.q.room):need x.n<x.q.room:=by rw [hn]; exact hr
structure Fw1 (x:BS):Prop where
 fed:Fed 40 x
 node:nodeR x 40 (4:Int)=⟨true,[2,5],[20,50],0⟩
 fr:(x.fr 4).isSome=true
 room:need x.n<x.q.room
 two : ¬Lf.Holds (x.has 2)
 busy:x.q.s.free 2=false
theorem fw1 (hr:Begun0 40 fY) (hf:(made0 40 fY).q.Found 4):Fw1 ((made0 40 fY).put 4 (nodePage true [2,5] [20,50])):=by
 have hl:(nodePage true [2,5] [20,50]).length=128:=Lf.length_nodePage _ _ _ rfl (by decide)
 obtain ⟨h1,h2,h3,h4,h5⟩:=(made_fed (by omega) (by omega) hr).put hf hl
 refine ⟨h1,nodeR_yes _ 40 (i:=4) (by omega) (by omega) fit_leaf (by rw [has_put,if_pos rfl]),?_,room_need h1.xn (by have:=fw_room.1; omega),by rw [has_put,if_neg (by omega)]; exact fw_two hr,by show ((made0 40 fY).q.took 4).s.free 2=false; decide⟩
 show ((if (4:Nat)=4 then some (nodePage true [2,5] [20,50]) else (made0 40 fY).fr 4)).isSome=true
 rw [if_pos rfl]
 rfl
structure Fw2 (x:BS) (b:Nat):Prop where
 fed:Fed 40 x
 node:nodeR x 40 (4:Int)=⟨true,[2,5],[20,50],0⟩
 top:nodeR x 40 (b:Int)=⟨false,[0,5],[4,9],0⟩
 pos:b≠0∧b<40
 two:nodeR x 40 (2:Int)=⟨false,[],[],130⟩
theorem fw2 {x:BS} (h:Fw1 x) {b:Nat} (hf:x.q.Found b):Fw2 (x.put b (nodePage false [0,5] [4,9])) b:=by
 have hl:(nodePage false [0,5] [4,9]).length=128:=Lf.length_nodePage _ _ _ rfl (by decide)
 obtain ⟨h1,h2,h3,h4,h5⟩:=h.fed.put hf hl
 have hb4:b≠4:=fun e=>by have:=h.fr; rw [← e,h2] at this; cases this
 have h4n:=h.node
 refine ⟨h1,?_,nodeR_yes _ 40 h3 h4 fit_two (by rw [has_put,if_pos rfl]),⟨by omega,h4⟩,?_⟩
 ·have e:(x.put b (nodePage false [0,5] [4,9])).has 4=x.has 4:=by rw [has_put,if_neg (fun e=>hb4 e.symm)]
  unfold nodeR at h4n ⊢
  rw [show ((4:Int).toNat)=4 from rfl] at h4n ⊢
  rw [e]
  exact h4n
 ·refine nodeR_no _ 40 (i:=2) (by omega) (by omega) ?_
  rw [has_put]
  split
  ·rename_i e
   subst e
   have h1:=hf.2.1
   rw [h.busy] at h1
   cases h1
  ·exact h.two
section
variable {Pr:Nat→Prop} {A:Adr} {x:BS}
theorem ways_ok {n:Nat} (hf:Fed n x) (root:Int) : ∀k,(downR x n root k).e=0→k.toNat≤(downR x n root k).last.toNat∧(downR x n root k).vs.length=(downR x n root k).ks.length∧(downR x n root k).ks.length≤7:=fun k=>by
 have key : ∀(f lv:Nat) (z:Int) (en:UInt64),k.toNat≤en.toNat→(downF x n k f lv z en).e=0→k.toNat≤(downF x n k f lv z en).last.toNat∧(downF x n k f lv z en).vs.length=(downF x n k f lv z en).ks.length∧(downF x n k f lv z en).ks.length≤7:=by
  intro f
  induction f with
  | zero=>intro lv z en _ h; exact absurd h (by show (130:Nat)≠0; decide)
  | succ f ih =>
   intro lv z en hk h
   unfold downF at h ⊢
   by_cases he:(nodeR x n z).e≠0
   ·rw [if_pos he] at h
    exact absurd h he
   ·rw [if_neg he] at h ⊢
    have he0:(nodeR x n z).e=0:=by simpa using he
    have hfit:=nodeR_fit he0
    by_cases hl:(nodeR x n z).l=true
    ·rw [if_pos hl]
     exact ⟨hk,hfit.2.1,hfit.1⟩
    ·rw [if_neg hl] at h ⊢
     have hlf:(nodeR x n z).l=false:=by simpa using hl
     refine ih _ _ _ ?_ h
     rw [hlf] at hfit ⊢
     have hat:=at_spec hfit k
     unfold lastR
     split
     ·exact hk
     ·rename_i q
      split
      ·exact hk
      ·have hi:=(fit_at hfit k).1
       have h2:=hat.2 ((atR false (nodeR x n z).ks (nodeR x n z).vs k).1+1) (by omega) (by omega)
       rw [toNat_pred (by omega)]
       omega
 unfold downR
 split
 ·intro _
  refine ⟨?_,rfl,Nat.zero_le _⟩
  have:=k.toNat_lt
  show k.toNat≤18446744073709551615
  omega
 ·refine key 8 0 root maxU ?_
  have:=k.toNat_lt
  show k.toNat≤18446744073709551615
  omega
theorem walk_base {n:Nat} (hf:Fed n x) {w:World} (h:BAt Pr w A x) (root:Int) (hz : -9223372036854775808≤root∧root≤9223372036854775807) (fr tt:UInt64) (most:Int) (L:List (Itm×Nat)) (hL:L=walkL (downR x n root) tt 18446744073709551616 fr) (hmost:most≤1000000∨L.length≤1000000) (r:List Itm×Nat) (hr:r=walkGo most [] L) :
  Calls Tryz.prog 55 #[.pointer (some ⟨A.b,0,none⟩),.int .i64 root,.int .u64 (fr.toNat:Int),.int .u64 (tt.toNat:Int),.int .i64 most] w fun e w' =>
   ∃v,e = .returned (.tuple #[v,.int .i64 (r.2:Nat)])∧OwnJ w' w.heap.size v r.1∧Below w.heap.size w w' :=
 walk_of root fr tt most (downR x n root) (ways_ok hf root) w (fun W k key=>down_any hf (h.below k) root key hz _ rfl) L hL hmost r hr
end
end Go.Proofs.YtogchamogbendaaGreat.Bs
namespace Go.Proofs.YtogchamogbendaaGreat.Bs
open Go.RowKit Oct Mv Tl Pk Pl Go.Maps Go.ChangeMaps
open Lf (Nd Fit nodePage RowN ToldN Rises)
open No (atR at_any low Ok)
theorem low_zero {ks:List UInt64} {k:UInt64} (h : ∀a∈ks,k.toNat≤a.toNat):low ks k=0:=by
 unfold low
 rw [List.countP_eq_zero]
 intro a ha
 have:=h a ha
 simp
 omega
theorem run_ranged (fr en:UInt64) : ∀ {seg:List Itm},Ris seg→runOn (seg.drop (low (seg.map Prod.fst) fr)) en=ranged seg fr en
 | [],_=>by rfl
 | a :: r,hr=>by
  have ih:=run_ranged fr en (seg:=r) (List.pairwise_cons.1 hr).2
  have hup:=(List.pairwise_cons.1 hr).1
  rcases Nat.lt_or_ge a.1.toNat fr.toNat with q | q
  ·have e:low ((a :: r).map Prod.fst) fr=low (r.map Prod.fst) fr+1:=by
    unfold low
    rw [List.map_cons,List.countP_cons,if_pos (by simpa using q)]
   rw [e,List.drop_succ_cons,ih]
   unfold ranged
   rw [List.filter_cons,if_neg]
   simp
   omega
  ·have h0:low ((a :: r).map Prod.fst) fr=0:=low_zero fun k hk=>by
    obtain ⟨p,hp,rfl⟩:=List.mem_map.1 hk
    rcases List.mem_cons.1 hp with e | e
    ·rw [e]; exact q
    ·have:=hup p e; omega
   have h1:low (r.map Prod.fst) fr=0:=low_zero fun k hk=>by
    obtain ⟨p,hp,rfl⟩:=List.mem_map.1 hk
    have:=hup p hp
    omega
   rw [h1,List.drop_zero] at ih
   rw [h0,List.drop_zero]
   rcases Nat.lt_or_ge en.toNat a.1.toNat with s | s
   ·rw [ranged_none fun p hp=>by
     right
     rcases List.mem_cons.1 hp with e | e
     ·rw [e]; exact s
     ·have:=hup p e; omega]
    unfold runOn
    rw [List.takeWhile_cons,if_neg]
    simp
    exact s
   ·have e1:runOn (a :: r) en=a :: runOn r en:=by
     unfold runOn
     rw [List.takeWhile_cons,if_pos (by simpa using s)]
    have e2:ranged (a :: r) fr en=a :: ranged r fr en:=by
     unfold ranged
     rw [List.filter_cons,if_pos (by simp; omega)]
    rw [e1,e2,ih]
theorem zip_two (l:List Itm):(l.map Prod.fst).zip (l.map Prod.snd)=l:=by
 induction l with
 | nil=>rfl
 | cons a r ih=>simp only [List.map_cons,List.zip_cons_cons,ih]
theorem leaf_ranged {seg:List Itm} (hr:Ris seg) (h7:seg.length≤7) (h:Nat) (last fr tt:UInt64):leafRun ⟨true,seg.map Prod.fst,seg.map Prod.snd,h,last,0⟩ fr tt=ranged seg fr (minU last tt):=by
 unfold leafRun
 have ho:Ok true (seg.map Prod.fst) (seg.map Prod.snd):=⟨by rw [List.length_map]; exact h7,by rw [List.length_map,List.length_map],List.pairwise_map.2 hr,.inl rfl⟩
 have ha:(atR true (seg.map Prod.fst) (seg.map Prod.snd) fr).1=low (seg.map Prod.fst) fr:=by
  unfold atR
  rw [if_pos ho]
  simp
 show runOn (((seg.map Prod.fst).zip (seg.map Prod.snd)).drop (atR true (seg.map Prod.fst) (seg.map Prod.snd) fr).1) _=_
 rw [ha,zip_two]
 exact run_ranged fr _ hr
theorem walk_tr {x:BS} {n:Nat} (hf:Fed n x) {P:Int→Prop} {lv m:Nat} {z:Int} {l:List Itm} (ht:Tr (nodeR x n) P m lv z l) (hris:Ris l) (hlv:lv<8) (hz:z≠0) (tt:UInt64) :
  ∀(F:Nat) (fr:UInt64),18446744073709551616-fr.toNat≤F→walkL (downR x n z) tt F fr=(ranged l fr tt).map (fun p=>(p,0))
 | 0,fr,hF=>by have:=fr.toNat_lt; omega
 | F+1,fr,hF=>by
  obtain ⟨pre,seg,post,e,hs,hw,hp,hq⟩:=tr_down (P:=P) fr lv m z l 8 0 maxU ht hris (fun p _=>by have:=p.1.toNat_lt; show _≤18446744073709551615; omega) hlv
  have hd:downR x n z fr=⟨true,seg.map Prod.fst,seg.map Prod.snd,0+lv+1,lastOf post maxU,0⟩:=by
   rw [← hw]
   unfold downR
   rw [if_neg hz]
  have h7:seg.length≤7:=by
   have:=(ways_ok hf z fr (by rw [hd])).2.2
   rw [hd] at this
   simpa using this
  subst e
  have hseg:Ris seg:=hris.right.left
  show (if (downR x n z fr).e≠0 then _ else _)=_
  rw [hd,if_neg (fun q=>q rfl),leaf_ranged hseg h7]
  rcases Nat.lt_or_ge (lastOf post maxU).toNat tt.toNat with k | k
  ·rw [if_neg (by show ¬tt.toNat≤(lastOf post maxU).toNat; omega)]
   obtain ⟨nx,h1,h2,h3⟩:=round_on hris hs hp hq k
   have e1:minU (lastOf post maxU) tt=lastOf post maxU:=by unfold minU; rw [if_pos (by omega)]
   have e2:lastOf post maxU+1=nx:=by
    apply UInt64.toNat_inj.1
    rw [UInt64.toNat_add,h1]
    have:=tt.toNat_lt
    show ((lastOf post maxU).toNat+1) % _=_
    omega
   rw [e1,h3,List.map_append]
   congr 1
   show walkL (downR x n z) tt F (lastOf post maxU+1)=_
   rw [e2]
   exact walk_tr hf ht hris hlv hz tt F nx (by omega)
  ·rw [if_pos (by exact k),List.append_nil,round_end hris hp hq k]
   congr 1
   refine ranged_same fun p _ => ?_
   have:(minU (lastOf post maxU) tt).toNat=tt.toNat:=by
    unfold minU
    split
    ·omega
    ·rfl
   rw [this]
end Go.Proofs.YtogchamogbendaaGreat.Bs
namespace Go.Proofs.YtogchamogbendaaGreat.Bs
open Go.RowKit Oct Mv Tl Pk Pl Go.Maps Go.ChangeMaps
open Lf (Nd Fit nodePage RowN ToldN Rises)
open No (atR at_any low Ok)
def look:List Itm→UInt64→UInt64×Bool
 | [],_=>(0,false)
 | p :: r,k=>if p.1=k then (p.2,true) else look r k
theorem look_app {a:List Itm} {k:UInt64} (h : ∀p∈a,p.1≠k) (b:List Itm):look (a++b) k=look b k:=by
 induction a with
 | nil=>rfl
 | cons p r ih =>
  show (if p.1=k then _ else look (r++b) k)=_
  rw [if_neg (h p (List.mem_cons_self ..)),ih fun q hq=>h q (List.mem_cons_of_mem _ hq)]
theorem look_no {a:List Itm} {k:UInt64} (h : ∀p∈a,p.1≠k):look a k=(0,false):=by
 have:=look_app h []
 rw [List.append_nil] at this
 exact this
theorem look_left {a b:List Itm} {k:UInt64} (h : ∀p∈b,p.1≠k):look (a++b) k=look a k:=by
 induction a with
 | nil=>exact look_no h
 | cons p r ih =>
  show (if p.1=k then _ else look (r++b) k)=(if p.1=k then _ else look r k)
  rw [ih]
theorem look_yes (k:UInt64) : ∀ {seg:List Itm},Ris seg→k∈seg.map Prod.fst→look seg k=((seg.map Prod.snd).getD (low (seg.map Prod.fst) k) 0,true)
 | [],_,h=>by cases h
 | p :: r,hr,h=>by
  have hup:=(List.pairwise_cons.1 hr).1
  by_cases e:p.1=k
  ·have h0:low ((p :: r).map Prod.fst) k=0:=low_zero fun a ha=>by
    obtain ⟨q,hq,rfl⟩:=List.mem_map.1 ha
    rw [← e]
    exact hr.head hq
   rw [h0]
   show (if p.1=k then _ else _)=_
   rw [if_pos e]
   rfl
  ·have hk:k∈r.map Prod.fst:=by
    rcases List.mem_cons.1 h with q | q
    ·exact absurd q.symm e
    ·exact q
   obtain ⟨q,hq,hqk⟩:=List.mem_map.1 hk
   have hlt:=hup q hq
   have e1:low ((p :: r).map Prod.fst) k=low (r.map Prod.fst) k+1:=by
    unfold low
    rw [List.map_cons,List.countP_cons,if_pos (by rw [← hqk]; simpa using hlt)]
   rw [e1]
   show (if p.1=k then _ else look r k)=_
   rw [if_neg e,look_yes k (List.pairwise_cons.1 hr).2 hk]
   rfl
theorem get_tr {x:BS} {n:Nat} (hf:Fed n x) {P:Int→Prop} {lv m:Nat} {z:Int} {l:List Itm} (ht:Tr (nodeR x n) P m lv z l) (hris:Ris l) (hlv:lv<8) (hz:z≠0) (k:UInt64) :
  getF (downR x n z k) k=((look l k).1,(look l k).2,0)∧(downR x n z k).high=lv+1∧(downR x n z k).e=0:=by
 obtain ⟨pre,seg,post,e,hs,hw,hp,hq⟩:=tr_down (P:=P) k lv m z l 8 0 maxU ht hris (fun p _=>by have:=p.1.toNat_lt; show _≤18446744073709551615; omega) hlv
 have hd:downR x n z k=⟨true,seg.map Prod.fst,seg.map Prod.snd,0+lv+1,lastOf post maxU,0⟩:=by
  rw [← hw]
  unfold downR
  rw [if_neg hz]
 have h7:seg.length≤7:=by
  have:=(ways_ok hf z k (by rw [hd])).2.2
  rw [hd] at this
  simpa using this
 subst e
 have hseg:Ris seg:=hris.right.left
 have ho:Ok true (seg.map Prod.fst) (seg.map Prod.snd):=⟨by rw [List.length_map]; exact h7,by rw [List.length_map,List.length_map],List.pairwise_map.2 hseg,.inl rfl⟩
 have hl:look (pre++(seg++post)) k=look seg k:=by
  rw [look_app (fun p hpp => ?_),look_left (fun p hpp q => ?_)]
  ·have:=hq p hpp
   rw [q] at this
   omega
  ·intro q
   rcases hp with e | ⟨a,r,e,ha⟩
   ·rw [e] at hpp; cases hpp
   ·have:=hris.across hpp (q:=a) (by rw [e]; simp)
    rw [q] at this
    omega
 refine ⟨?_,by rw [hd]; show 0+lv+1=_; omega,by rw [hd]⟩
 rw [hd,hl]
 unfold getF atR
 rw [if_neg (fun q=>q rfl)]
 simp only [if_pos ho]
 by_cases hk:k∈seg.map Prod.fst
 ·rw [look_yes k hseg hk]
  simp [hk]
 ·rw [look_no fun p hpp e=>hk (by rw [← e]; exact List.mem_map_of_mem hpp)]
  simp [hk]
theorem go_take (most:Int) : ∀(l acc:List Itm),(acc = []∧most≤0)∨acc.length<most.toNat→walkGo most acc (l.map fun p=>(p,0))=(acc++l.take (most.toNat-acc.length),0)
 | [],acc,_=>by simp [walkGo]
 | a :: r,acc,h=>by
  show (if (0:Nat)≠0 then _ else if most≤((if 0<most then acc ++ [a] else acc).length:Int) then ((if 0<most then acc ++ [a] else acc),0) else walkGo most (if 0<most then acc ++ [a] else acc) (r.map fun p=>(p,0)))=_
  rw [if_neg (by decide)]
  rcases h with ⟨rfl,h⟩ | h
  ·rw [if_neg (by omega : ¬0<most),if_pos (by simpa using h),show most.toNat=0 by omega]
   rfl
  ·rw [if_pos (by omega:0<most)]
   have hl:(acc ++ [a]).length=acc.length+1:=by simp
   by_cases h2:most≤((acc ++ [a]).length:Int)
   ·rw [if_pos h2,show most.toNat-acc.length=0+1 by omega,List.take_succ_cons,List.take_zero]
   ·rw [if_neg h2,go_take most r (acc ++ [a]) (.inr (by omega)),hl,show most.toNat-acc.length=(most.toNat-(acc.length+1))+1 by omega,List.take_succ_cons,List.append_assoc]
    rfl
end Go.Proofs.YtogchamogbendaaGreat.Bs
