import Derived.Deep.Onto
import Derived.Laws.ResultCell
import Derived.Test.YtogchamogbendaaGreatQts
import Derived.Test.YtogchamogbendaaGreatQtw
import Derived.Test.YtogchamogbendaaGreatQtc
import Derived.Test.YtogchamogbendaaGreatQtg
set_option maxRecDepth 100000
set_option linter.unusedVariables false
set_option linter.unusedSimpArgs false
namespace Go.Proofs.YtogchamogbendaaGreat.Bs
open Lib (hid)
open Go.RowKit Oct Mv Tl Pk Pl Go.Maps Go.ChangeMaps
open Dsk (dT)
theorem dnew (n:Nat) (h0:16≤n) (h1:n≤4096) (w:World) :
  Calls Tryz.prog 45 #[.int .i64 (n:Int)] w fun e w' => ∃a,e = .returned (.tuple #[.pointer (some ⟨a,0,none⟩),.int .i64 0])∧DIs (fun k=>k<w.heap.size) w' a (Dsk.fresh n)∧Below w.heap.size w w' :=
 (Dsk.new_ok n h0 h1 w).mono fun e w' ⟨a,bb,he,ha,hb⟩=>⟨a,he,⟨bb,n,.slice none 0 0,⟨Nat.zero_le _,ha.head,ha.blocks.mono (Nat.zero_le _),ha.waits.mono (Nat.zero_le _),ha.ok⟩,Nat.not_lt.2 ha.lo,Nat.not_lt.2 (World.ownsRow.lt ha.blocks bb rfl).1,fun k hk=>by cases hk⟩,hb⟩
theorem calm_fresh (n:Nat):Calm (Dsk.fresh n):=⟨rfl,rfl⟩
theorem lok_fresh (n:Nat):Lok (Dsk.fresh n):=⟨by show (List.replicate (n*128) (0:UInt8)).length=n*128; exact List.length_replicate,fun x hx=>by cases hx⟩
def made0 (n:Nat) (y:Wk):BS:=opened (doSteps (Dsk.fresh n) (fmtSteps n y)) (leadS (sup0 n) y.l2) y.l1 y.l2 y.q.s.now
def Begun0 (n:Nat) (y:Wk):Prop:=(Pl.begin (q0 n) (zeros (pg n)) (zeros (pg (pg n)))).Runs y
set_option maxHeartbeats 2000000 in
theorem base_made (n:Nat) (h1:16≤n) (h2:n≤400) (w:World) :
  Calls Tryz.prog 49 #[.int .i64 (n:Int)] w fun e w' => ∃(A:Adr) (y:Wk),e = .returned (.tuple #[.pointer (some ⟨A.b,0,none⟩),.bool true])∧Begun0 n y∧(∀k∈A.list,w.heap.size≤k)∧BAt (fun k=>k<w.heap.size) w' A (made0 n y)∧Below w.heap.size w w':=by
 go_enter Tryz.func49,Tryz.ntmps49
 go_wp2_with fail
 refine (dnew n h1 (by omega) w).mono ?_
 rintro e w1 ⟨a,rfl,hd,B1⟩
 have HB1:=hid B1
 have HD1:=hid hd
 clear B1 hd
 go_wp2_with fail
 refine (format_any HD1.out (calm_fresh n) (fun k hk=>Nat.lt_of_lt_of_le hk HB1.out.size) rfl h1 h2 (by show (0:Nat)<100000; omega)).mono ?_
 rintro e w2 ⟨rfl,y,hr,hd,O2⟩
 have HR:=hid hr
 have HD2:=hid hd
 have HB2:=hid (HB1.out.trans (O2.below (fun k hk=>hk) (by simp) HB1.out.size))
 clear hr hd O2
 go_wp2_with fail
 have hc:=doSteps_all (fmtSteps n y) (Dsk.fresh n) (calm_fresh n)
 refine (open_yes HD2.out hc.2.1.gone (fun k hk=>Nat.lt_of_lt_of_le hk HB2.out.size) (format_opens h1 h2 HR.out (calm_fresh n) (lok_fresh n) rfl)).mono ?_
 rintro e w3 ⟨A,rfl,hda,hA,hb,B3⟩
 have HB3:=hid (HB2.out.trans (B3.mono HB2.out.size))
 have HAT:=hid hb
 have HAL:=hid hA
 clear B3 hb hA hda hc
 go_wp2_with fail
 go_ret2
 exact ⟨A,y,rfl,HR.out,fun k hk=>Nat.le_trans HB2.out.size (HAL.out k hk),HAT.out,HB3.out⟩
end Go.Proofs.YtogchamogbendaaGreat.Bs
namespace Go.Proofs.YtogchamogbendaaGreat.Bs
open Go.RowKit Oct Mv Tl Pk Pl Go.Maps Go.ChangeMaps
open Dsk (dT)
open Su (Sup nth)
theorem moved_zero {q q':Q} {b:Nat} (h:Moved q 0 q' b) (hok:q.Ok):q.room=q'.room+1:=by
 obtain ⟨h1,rfl⟩:=h
 have e:down1 q 0=q:=rfl
 rw [e] at h1 ⊢
 exact room_took hok h1
theorem step_room {x y:Wk} {q0:Q} {L0:List Nat} (h:x.Step y) (hg:x.Good) (hri:x.RI q0 L0) (hz : ∀i,L0.getD i 0=0):x.q.room=y.q.room+1:=by
 cases h with
 | one i b q' k1 k2 =>
  obtain ⟨hi,hf,_⟩:=k1.ask
  have:=(hri.un i (by rw [List.length_append]; omega) (by rw [getD_app1 _ _ _ (by rw [hg.fl1]; exact hi)]; exact hf)).1
  rw [getD_app1 _ _ _ hi,hz] at this
  rw [this] at k2
  exact moved_zero k2 hg.ok
 | two i b q' k0 k1 k2 =>
  obtain ⟨hi,hf,_⟩:=k1.ask
  have:=(hri.un (x.l1.length+i) (by rw [List.length_append]; omega) (by rw [← hg.fl1,getD_app2]; exact hf)).1
  rw [getD_app2,hz] at this
  rw [this] at k2
  exact moved_zero k2 hg.ok
theorem runs_room {x y:Wk} {q0:Q} {L0:List Nat} (h:x.Runs y) (hg:x.Good) (hb:Pl.Base q0 L0) (hri:x.RI q0 L0) (hz : ∀i,L0.getD i 0=0):x.q.room+y.left=y.q.room+x.left:=by
 induction h with
 | done _=>rfl
 | step s r ih =>
  have k1:=ih (hg.step s) (s.ri hg hb hri)
  have k2:=step_room s hg hri hz
  have k3:=hg.less s
  omega
theorem getD_set_c (l:List UInt16) (i j:Nat) (c:UInt16):(l.set i c).getD j 0=if j=i∧i<l.length then c else l.getD j 0:=getD_set l i j c 0
theorem made_room {n:Nat} {y:Wk} (h1:16≤n) (h2:n≤400) (hr:Begun0 n y):(made0 n y).q.room+need n=n-2∧(made0 n y).n=n:=by
 obtain ⟨hs,hyn,_,_⟩:=sound0 h1 h2 hr
 have hg:=q0_good h1 h2
 have hb:Pl.Base (q0 n) (zeros (pg n)++zeros (pg (pg n))):=⟨fun i _ h=>absurd (by rw [zeros_app,zeros_get]) h,by show 1≤2; omega⟩
 have hri:=begin_ri (q:=q0 n) (l1:=zeros (pg n)) (l2:=zeros (pg (pg n))) (fun i _ h=>absurd (by rw [zeros_app,zeros_get]) h)
 have hr2:=hr.ri hg hb hri
 have key:=runs_room hr hg hb hri (fun i=>by rw [zeros_app,zeros_get])
 have hlen:(y.f1++y.f2).length=(y.l1++y.l2).length:=hr2.lenF
 have hyl:y.left=0:=by
  show (y.f1++y.f2).countP (fun x => !x)=0
  rw [List.countP_eq_zero]
  intro x hx
  obtain ⟨i,hi,rfl⟩:=List.mem_iff_getElem.1 hx
  have e:(y.f1++y.f2).getD i false=(y.f1++y.f2)[i]:=by rw [List.getD_eq_getElem?_getD,List.getElem?_eq_getElem hi]; rfl
  rcases Bool.eq_false_or_eq_true ((y.f1++y.f2)[i]) with k | k
  ·rw [k]; decide
  ·have hu:=(hr2.un i (by omega) (by rw [e]; exact k)).1
   rw [zeros_app,zeros_get] at hu
   exact absurd hu (hs.one i (by omega)).1
 have hxl:(Pl.begin (q0 n) (zeros (pg n)) (zeros (pg (pg n)))).left=need n:=by
  show Pl.left (List.replicate (zeros (pg n)).length false++List.replicate (zeros (pg (pg n))).length false)=need n
  rw [left_rep]
  simp [zeros,need]
 have hq0:(Pl.begin (q0 n) (zeros (pg n)) (zeros (pg (pg n)))).q.room=n-2:=by show (q0 n).room=n-2; unfold q0; rw [new_room]
 have hfree : ∀j,(Tl.St.of y.q.s.now).free j=y.q.s.free j:=fun j=>by
  have hw:y.q.s.was j=0:=by
   rw [hr2.was j]
   show (List.replicate n (0:UInt16)).getD j 0=0
   simp only [List.getD_eq_getElem?_getD,List.getElem?_replicate]
   split <;> rfl
  unfold Tl.St.free
  rw [hw]
  show (y.q.s.now.getD j 0==0&&y.q.s.now.getD j 0==0)=(y.q.s.now.getD j 0==0&&(0:UInt16)==0)
  cases (y.q.s.now.getD j 0==0) <;> rfl
 have hroom:(made0 n y).q.room=y.q.room:=by
  show St.count (Tl.St.of y.q.s.now) 2 (y.q.s.now.length-2)=St.count y.q.s y.q.first (y.q.s.n-y.q.first)
  rw [show y.q.first=2 from hs.first]
  unfold St.count
  rw [show (Tl.St.of y.q.s.now).free=y.q.s.free from funext hfree]
  rfl
 refine ⟨?_,hyn⟩
 rw [hroom]
 omega
structure Fed (n:Nat) (x:BS):Prop where
 ok:x.q.Ok
 xn:x.n=n
 blk:nth x.now 1=n
 lo:16≤n
 hi:n≤400
 dn:x.D.n=n
 gone:x.D.gone=false
 first:x.q.first=2
 fr : ∀b bs,x.fr b=some bs→2≤b∧b<n∧x.q.s.cnt b≠0∧bs.length=128
theorem made_fed {n:Nat} {y:Wk} (h1:16≤n) (h2:n≤400) (hr:Begun0 n y):Fed n (made0 n y):=by
 obtain ⟨hs,hyn,_,_⟩:=sound0 h1 h2 hr
 have hl2:y.l2.length≤2:=by rw [(fmtY h1 h2 hr).len2]; unfold pg; omega
 have hal:=doSteps_all (fmtSteps n y) (Dsk.fresh n) (calm_fresh n)
 exact ⟨⟨hs.ok.s,by show 2≤y.q.s.n; omega,Nat.le_refl _,.inr rfl,Nat.zero_le _⟩,hyn,by show nth (leadS (sup0 n) y.l2) 1=n; rw [leadS_low (by simp [sup0]) 1 (by omega)]; rfl,h1,h2,hal.1,hal.2.1.gone,rfl,fun b bs h=>by cases h⟩
theorem Fed.put {n:Nat} {x:BS} (h:Fed n x) {b:Nat} (hb:x.q.Found b) {bs:List UInt8} (hl:bs.length=128):Fed n (x.put b bs)∧x.fr b=none∧2≤b∧b<n∧x.q.room=(x.put b bs).q.room+1:=by
 have hlo:=hb.lo h.ok
 rw [h.first] at hlo
 have hbn:b<n:=by have:=hb.1; have e:=h.xn; unfold BS.n at e; omega
 have hcnt:x.q.s.cnt b=0:=by
  have:=hb.2.1
  unfold Tl.St.free at this
  simp at this
  exact this.1
 have hnone:x.fr b=none:=by
  cases e:x.fr b with
  | none=>rfl
  | some bs=>exact absurd hcnt (h.fr b bs e).2.2.1
 have hnow : ∀j,(x.q.took b).s.cnt j=if j=b∧b<x.q.s.now.length then x.q.s.cnt b+1 else x.q.s.cnt j:=fun j=>getD_set_c _ _ _ _
 refine ⟨⟨h.ok.took hb,?_,h.blk,h.lo,h.hi,h.dn,h.gone,h.first,fun k ks hk => ?_⟩,hnone,hlo,hbn,room_took h.ok hb⟩
 ·show (x.q.s.now.set b _).length=n
  rw [List.length_set]
  exact h.xn
 ·have hk':(if k=b then some bs else x.fr k)=some ks:=hk
  by_cases e:k=b
  ·subst e
   rw [if_pos rfl] at hk'
   refine ⟨hlo,hbn,?_,by rw [← Option.some.inj hk']; exact hl⟩
   show (x.q.took k).s.cnt k≠0
   rw [hnow k,if_pos ⟨rfl,hb.1⟩,hcnt]
   decide
  ·rw [if_neg e] at hk'
   obtain ⟨k1,k2,k3,k4⟩:=h.fr k ks hk'
   refine ⟨k1,k2,?_,k4⟩
   show (x.q.took b).s.cnt k≠0
   rw [hnow k,if_neg (fun q=>e q.1)]
   exact k3
theorem Fed.over {n:Nat} {x:BS} (h:Fed n x) {b:Nat} (hb:(x.fr b).isSome=true) {bs:List UInt8} (hl:bs.length=128):Fed n (x.over b bs):=by
 obtain ⟨old,ho⟩:=Option.isSome_iff_exists.1 hb
 refine ⟨h.ok,h.xn,h.blk,h.lo,h.hi,h.dn,h.gone,h.first,fun k ks hk => ?_⟩
 have hk':(if k=b then some bs else x.fr k)=some ks:=hk
 by_cases e:k=b
 ·subst e
  rw [if_pos rfl] at hk'
  obtain ⟨k1,k2,k3,_⟩:=h.fr k old ho
  exact ⟨k1,k2,k3,by rw [← Option.some.inj hk']; exact hl⟩
 ·rw [if_neg e] at hk'
  exact h.fr k ks hk'
end Go.Proofs.YtogchamogbendaaGreat.Bs
namespace Go.Proofs.YtogchamogbendaaGreat.No
open Lib (hid)
open Go.RowKit Oct Lf Mv
abbrev box (w:World) (l:Bool) (A:Option Addr) (n c:Nat) (B:Option Addr) (m d:Nat):World:=w.alloc (.cells #[.bool l,.slice A n c,.slice B m d] 107)
theorem box_row (w:World) (l:Bool) (A:Option Addr) (n c:Nat) (B:Option Addr) (m d:Nat):RowV (box w l A n c B m d) w.heap.size 107 [.bool l,.slice A n c,.slice B m d]:=alloc_rowV _ _ _
theorem low_lt {ns:List UInt64} {k:UInt64} (h:k∈ns):low ns k<ns.length:=by
 unfold low
 rcases Nat.lt_or_ge (ns.countP fun x=>decide (x.toNat<k.toNat)) ns.length with c | c
 ·exact c
 ·have e:(ns.countP fun x=>decide (x.toNat<k.toNat))=ns.length:=Nat.le_antisymm List.countP_le_length c
  have:=(List.countP_eq_length.1 e) k h
  simp at this
theorem res_iii {fn:Func} {p q x:Tmp} (h:fn.results = #[.tmp p,.tmp q,.tmp x]) (tmps:Array Value) {w:World}:(results fn tmps).run Tryz.prog w = .ok (.tuple #[tmps.getD p undef,tmps.getD q undef,tmps.getD x undef]) w:=by
 simp [results,h,Sem.run_bind,Result.andThen]
def atR (l:Bool) (ks vs:List UInt64) (k:UInt64):Nat×Bool×Nat :=
 if Ok l ks vs then (if l=false∧k∉ks then low ks k-1 else low ks k,decide (k∈ks),0) else (0,false,30)
set_option maxHeartbeats 1000000 in
theorem at_any (l:Bool) {w:World} {A B:Option Addr} {n c m d:Nat} {ks vs:List UInt64} (h:Nd w A n c B m d ks vs) (k:UInt64) (t:Nat×Bool×Nat) (ht:t=atR l ks vs k) :
  Calls Tryz.prog 118 #[.agg #[.bool l,.slice A n c,.slice B m d],.int .u64 (k.toNat:Int)] w fun e w'=>e = .returned (.tuple #[.int .i64 (t.1:Nat),.bool t.2.1,.int .i64 (t.2.2:Nat)])∧Below w.heap.size w w':=by
 have BB:=hid ((Below.refl w.heap.size w).alloc (Nat.le_refl _) (.cells #[.bool l,.slice A n c,.slice B m d] 107))
 have HBX:=hid (box_row w l A n c B m d)
 have HN:=hid (h.below BB.out)
 have kl:=h.kl
 have HT:=hid ht
 clear h ht
 go_enter Tryz.func118,Tryz.ntmps118
 go_wp2_with fail
 refine (right_any l HN.out).mono ?_
 rintro e w2 ⟨rfl,B2⟩
 have BB2:=hid (BB.out.trans (B2.mono BB.out.size))
 have HBX2:=hid (HBX.out.below HBX.out.lt B2)
 have HN2:=hid (HN.out.below B2)
 clear B2
 by_cases hok:Ok l ks vs
 ·rw [decide_eq_true hok]
  have c0:=HBX2.out.cellAt (i:=0) rfl
  have c1:=HBX2.out.cellAt (i:=1) rfl
  have E:=hid (show t=(if l=false∧k∉ks then low ks k-1 else low ks k,decide (k∈ks),0) by rw [HT.out]; unfold atR; rw [if_pos hok])
  have h7:=hok.1
  have HK:=hid hok
  clear hok
  go_wp2_with fail
  refine (search_any A n c ks k HN2.out.kl (by omega) _ HN2.out.ks HK.out.2.2.1).mono ?_
  rintro e w3 ⟨rfl,S3⟩
  have BB3:=hid (BB2.out.trans (S3.below _))
  replace c0:=(S3.cell _).trans c0
  have l1:=low_le ks k
  clear S3 c1
  by_cases hk:k∈ks
  ·rw [decide_eq_true hk]
   have E2:=E.out
   rw [if_neg (fun h=>h.2 hk),decide_eq_true hk] at E2
   subst E2
   cases l
   all_goals
    go_wp2_with fail
    refine bodyPost_ret (v:=_) (res_iii rfl _) rfl ⟨rfl,BB3.out⟩
  ·rw [decide_eq_false hk]
   cases l
   ·have E2:=E.out
    rw [if_pos ⟨rfl,hk⟩,decide_eq_false hk] at E2
    subst E2
    by_cases h0:0<low ks k
    ·have e1:((low ks k:Nat):Int)-1=((low ks k-1:Nat):Int):=by omega
     have e2 : ¬(((low ks k-1:Nat):Int)<0):=by omega
     go_wp2_with fail
     refine bodyPost_ret (v:=_) (res_iii rfl _) rfl ⟨?_,BB3.out⟩
     rfl
    ·have e0:low ks k=0:=by omega
     rw [e0]
     go_wp2_with fail
     refine bodyPost_ret (v:=_) (res_iii rfl _) rfl ⟨?_,BB3.out⟩
     first
     | rfl
     | (rw [e0]; rfl)
   ·have E2:=E.out
    rw [if_neg (fun h=>by cases h.1),decide_eq_false hk] at E2
    subst E2
    go_wp2_with fail
    refine bodyPost_ret (v:=_) (res_iii rfl _) rfl ⟨rfl,BB3.out⟩
 ·rw [decide_eq_false hok]
  obtain rfl:t=(0,false,30):=by rw [HT.out]; unfold atR; rw [if_neg hok]
  go_wp2_with fail
  refine bodyPost_ret (v:=_) (res_iii rfl _) rfl ⟨rfl,BB2.out⟩
end Go.Proofs.YtogchamogbendaaGreat.No
namespace Go.Proofs.YtogchamogbendaaGreat.Bs
open Lib (hid)
open Go.RowKit Oct Mv Tl Pk Pl Go.Maps Go.ChangeMaps
open Lf (Nd Fit nodePage RowN)
open Su (Sup nth)
theorem fnode_size:(Tryz.prog.info? 107).map (·.size)=some 3:=by kernel_rfl
theorem frow_set {w:World} {g:Nat} {T:TypeId} {vs us:List Value} (h:RowV w g T vs):RowV (w.setRow g us.toArray) g T us:=setRow_heap w g _ _ _ _ h
theorem frow_below {w:World} {B q:Nat} (cs:Array Value) (h:B≤q):Below B w (w.setRow q cs):=⟨rfl,rfl,rfl,by simp,fun k hk=>setRow_other _ _ _ _ (by omega)⟩
theorem frow_told {w w':World} {g:Nat} {T:TypeId} {ns:List UInt64} (h:RowN w g T ns) (k:w'.heap[g]?=w.heap[g]?):Lf.ToldN w' (some ⟨g,0,none⟩) ns:=(show RowN w' g T ns from k.trans h).has.told
theorem fwpList_store {ops:Array Oper} {rest:List Oper} {o:Oper} {a:Act} {w:World} {Q:Exit→Act→World→Prop} (hgd:o.guard=none) (x y:Operand) (ho:o.op = .store 107 x y)
  (r:Nat) (l:Bool) (K:Option Addr) (n k:Nat) (V:Option Addr) (m v:Nat) (x0 y0 z0:Value) (hx:a.eval x = .pointer (some ⟨r,0,none⟩)) (hy:a.eval y = .agg #[.bool l,.slice K n k,.slice V m v]) (hr:RowV w r 107 [x0,y0,z0])
  (h : ∀cs,RowV (w.setRow r cs) r 107 [.bool l,.slice K n k,.slice V m v]→wpList Tryz.prog ops Q rest (a.put o.dst undef) (w.setRow r cs)):wpList Tryz.prog ops Q (o :: rest) a w :=
 wpList_plain hgd fun _ hK=>wp_store_row 107 x y ho r #[.bool l,.slice K n k,.slice V m v] hx hy _ _ hr fnode_size rfl (by simp [Value.oneCell']) (hK _ _ (h _ (frow_set hr)))
theorem fres_two {fn:Func} {p q:Tmp} (h:fn.results = #[.cell p 107,.tmp q]) (tmps:Array Value) {w:World} {r:Nat} {x0 y0 z0:Value} (hp:tmps.getD p undef = .pointer (some ⟨r,0,none⟩)) (hr:RowV w r 107 [x0,y0,z0]):(results fn tmps).run Tryz.prog w = .ok (.tuple #[.agg #[x0,y0,z0],tmps.getD q undef]) w:=by
 have hp':tmps[p]?.getD undef = .pointer (some ⟨r,0,none⟩):=by simpa using hp
 have hl:(loadVar 107 ⟨r,0,none⟩).run Tryz.prog w = .ok (.agg #[x0,y0,z0]) w:=run_loadVar_row w r 107 _ _ (0,0) _ hr Tryz.underlying107 rfl fnode_size
 simp [results,h,hp',asAddr,Sem.run_bind,Result.andThen,hl]
def NewA (B:Nat) (K:Option Addr):Prop := ∀b o,K=some ⟨b,o,none⟩→B≤b
theorem newA_none (B:Nat):NewA B none:=fun _ _ e=>by cases e
section
variable {Pr:Nat→Prop} {w w':World} {A:Adr} {x:BS}
theorem Fed.read {n:Nat} (hf:Fed n x) (h:BAt Pr w A x) (i:Nat) (hi:i<n) :
  Calls Tryz.prog 36 #[.pointer (some ⟨A.b,0,none⟩),.int .i64 (i:Int)] w (ReadB w (x.has i)):=by
 have a:=hf.blk
 have b:=hf.hi
 exact read_at h (by omega) hf.gone i (by omega) (by rw [hf.blk]; exact hf.dn)
set_option maxHeartbeats 1000000 in
theorem fnode_yes {n:Nat} (hf:Fed n x) (h:BAt Pr w A x) (i:Nat) (h2:2≤i) (hi:i<n) (l:Bool) (ks vs:List UInt64) (hfit:Fit l ks vs) (hp:x.has i=nodePage l ks vs) :
  Calls Tryz.prog 61 #[.pointer (some ⟨A.b,0,none⟩),.int .i64 (i:Int)] w fun e w' =>
   ∃K k V v,e = .returned (.tuple #[.agg #[.bool l,.slice K ks.length k,.slice V vs.length v],.int .i64 0])∧Nd w' K ks.length k V vs.length v ks vs∧Below w.heap.size w w'∧NewA w.heap.size K∧NewA w.heap.size V:=by
 have H:=hid h
 have HF:=hid hf
 have HP:=hid hp
 have HFit:=hid hfit
 have g1 : ¬((i:Int)<2):=by omega
 clear h hf hp hfit
 go_enter Tryz.func61,Tryz.ntmps61
 go_wp2_with fail
 have B1:=hid ((Below.refl w.heap.size w).alloc (Nat.le_refl _) (.cells #[.bool false,.slice none 0 0,.slice none 0 0] 107))
 refine (HF.out.read (H.out.below B1.out) i hi).mono ?_
 rintro e w2 ⟨g,c,rfl,hb,hl,hc,hm,hg,B2⟩
 rw [HP.out] at hb hl
 have HB:=hid hb
 have BB2:=hid (B1.out.trans (B2.mono B1.out.size))
 have HBX:=hid ((show RowV _ w.heap.size 107 [.bool false,.slice none 0 0,.slice none 0 0] from alloc_rowV w _ _).below (by simp) B2)
 clear hb B2
 go_wp2_with fail
 refine (Go.Proofs.YtogchamogbendaaGreat.Lf.decode_page l ks vs HFit.out ks.length rfl g 0 c w2 HB.out.1 hc hm).mono ?_
 rintro e w3 ⟨g1,g2,rfl,R1,R2,lo1,lo2,ne,B3⟩
 have s2:=BB2.out.size
 have s1:=B1.out.size
 have sz:w.heap.size<w2.heap.size:=HBX.out.lt
 have BB3:=hid (BB2.out.trans (B3.mono BB2.out.size))
 have HBX3:=hid (HBX.out.below HBX.out.lt B3)
 clear B3
 go_wp2_with (first | (refine fwpList_store rfl (.tmp 4) (.tmp 29) rfl w.heap.size l _ _ _ _ _ _ _ _ _ rfl rfl (HBX3.out.below HBX3.out.lt ((Below.refl _ _).alloc (Nat.le_refl _) _)) ?_; intro cs HC))
 refine bodyPost_ret (v:=_) (fres_two rfl _ rfl HC) rfl ⟨some ⟨g1,0,none⟩,ks.length,some ⟨g2,0,none⟩,ks.length,?_,?_,?_⟩
 ·rw [HFit.out.2.1]
  rfl
 ·have f7:=HFit.out.1
  have fv:=HFit.out.2.1
  have mx:7≤maxLen:=by unfold maxLen; omega
  exact ⟨rfl,rfl,Nat.le_refl _,by omega,by omega,by omega,frow_told R1 ((setRow_other _ _ _ _ (by omega)).trans (((Below.refl w3.heap.size w3).alloc (Nat.le_refl _) _).block g1 R1.lt)),frow_told R2 ((setRow_other _ _ _ _ (by omega)).trans (((Below.refl w3.heap.size w3).alloc (Nat.le_refl _) _).block g2 R2.lt))⟩
 ·exact ⟨(BB3.out.alloc BB3.out.size _).trans (frow_below cs (Nat.le_refl _)),fun b o e=>by cases e; omega,fun b o e=>by cases e; omega⟩
end
end Go.Proofs.YtogchamogbendaaGreat.Bs
namespace Go.Proofs.YtogchamogbendaaGreat.Bs
open Lib (hid)
open Go.RowKit Oct Mv Tl Pk Pl Go.Maps Go.ChangeMaps
open Su (Sup nth)
section
variable {Pr:Nat→Prop} {w w':World} {A:Adr} {x:BS}
theorem has_no (h:BAt Pr w A x) (hn:nth x.now 1≤4096) (i:Int) (h0:i<0∨(nth x.now 1:Int)≤i) :
  Calls Tryz.prog 103 #[.pointer (some ⟨A.b,0,none⟩),.int .i64 i] w fun e w'=>e = .returned (.bool false)∧w=w':=by
 have H:=hid h
 clear h
 by_cases k:i<0
 ·have k' : ¬(0≤i):=by omega
  clear h0
  go_enter Tryz.func103,Tryz.ntmps103
  go_wp2_with fail
  go_ret
  exact ⟨rfl,rfl⟩
 ·have k0:0≤i:=by omega
  have k1 : ¬(i<(nth x.now 1:Int)):=by omega
  clear h0
  go_enter Tryz.func103,Tryz.ntmps103
  go_wp2_with fail
  refine (Bs.blocks_at H.out hn).mono ?_
  rintro e w' ⟨rfl,rfl⟩
  go_wp2_with fail
  rw [decide_eq_false (Int.not_lt.2 k1)]
  go_ret
  exact ⟨rfl,rfl⟩
theorem read_bad (h:BAt Pr w A x) (hn:nth x.now 1≤4096) (i:Int) (h0:i<0∨(nth x.now 1:Int)≤i) :
  Calls Tryz.prog 36 #[.pointer (some ⟨A.b,0,none⟩),.int .i64 i] w fun e w'=>e = .returned (.tuple #[.slice none 0 0,.int .i64 2])∧w=w':=by
 have H:=hid h
 have c43:=h.c43
 have H0:=hid h0
 clear h h0
 go_enter Tryz.func36,Tryz.ntmps36
 go_wp2_with fail
 refine (bmade_self A.b _ c43).mono ?_
 rintro e w' ⟨rfl,rfl⟩
 go_wp2_with fail
 refine (has_no H.out hn i H0.out).mono ?_
 rintro e w' ⟨rfl,rfl⟩
 go_wp2_with fail
 go_ret2
 exact ⟨rfl,rfl⟩
theorem fnode_bad {n:Nat} (hf:Fed n x) (h:BAt Pr w A x) (i:Int) (h0:i<2∨(n:Int)≤i) :
  Calls Tryz.prog 61 #[.pointer (some ⟨A.b,0,none⟩),.int .i64 i] w fun e w'=>e = .returned (.tuple #[.agg #[.bool false,.slice none 0 0,.slice none 0 0],.int .i64 2])∧Below w.heap.size w w':=by
 have H:=hid (h.below ((Below.refl w.heap.size w).alloc (Nat.le_refl _) (.cells #[.bool false,.slice none 0 0,.slice none 0 0] 107)))
 have HB:=hid hf.blk
 have HI:=hid hf.hi
 have H0:=hid h0
 clear h hf h0
 by_cases g1:i<2
 all_goals
  go_enter Tryz.func61,Tryz.ntmps61
  go_wp2_with fail
  refine (read_bad H.out (by have:=HB.out; have:=HI.out; omega) _ (by have:=HB.out; have:=H0.out; omega)).mono ?_
  rintro e w2 ⟨rfl,rfl⟩
  go_wp2_with fail
  refine bodyPost_ret (v:=_) (fres_two rfl _ rfl (alloc_rowV w _ [.bool false,.slice none 0 0,.slice none 0 0])) rfl ⟨rfl,(Below.refl _ _).alloc (Nat.le_refl _) _⟩
end
end Go.Proofs.YtogchamogbendaaGreat.Bs
namespace Go.Proofs.YtogchamogbendaaGreat.Bs
open Lib (hid)
open Go.RowKit Oct Mv Tl Pk Pl Go.Maps Go.ChangeMaps
open Su (Sup nth)
section
variable {Pr:Nat→Prop} {w w':World} {A:Adr} {x:BS}
set_option maxHeartbeats 1000000 in
theorem fnode_tree {n:Nat} (hf:Fed n x) (h:BAt Pr w A x) (i:Nat) (h2:2≤i) (hi:i<n) (hp : ¬Lf.Holds (x.has i)) :
  Calls Tryz.prog 61 #[.pointer (some ⟨A.b,0,none⟩),.int .i64 (i:Int)] w fun e w' =>
   e = .returned (.tuple #[.agg #[.bool false,.slice none 0 0,.slice none 0 0],.int .i64 130])∧Below w.heap.size w w':=by
 have H:=hid h
 have HF:=hid hf
 have HP:=hid hp
 have g1 : ¬((i:Int)<2):=by omega
 clear h hf hp
 go_enter Tryz.func61,Tryz.ntmps61
 go_wp2_with fail
 have B1:=hid ((Below.refl w.heap.size w).alloc (Nat.le_refl _) (.cells #[.bool false,.slice none 0 0,.slice none 0 0] 107))
 refine (HF.out.read (H.out.below B1.out) i hi).mono ?_
 rintro e w2 ⟨g,c,rfl,hb,hl,hc,hm,hg,B2⟩
 have HB:=hid hb
 have BB2:=hid (B1.out.trans (B2.mono B1.out.size))
 have HBX:=hid ((show RowV _ w.heap.size 107 [.bool false,.slice none 0 0,.slice none 0 0] from alloc_rowV w _ _).below (by simp) B2)
 clear hb B2
 go_wp2_with fail
 refine (Go.Proofs.YtogchamogbendaaGreat.Lf.decode_any (some ⟨g,0,none⟩) 128 c (x.has i) hl hc hm w2 HB.out.1.told).mono ?_
 rintro e w3 (⟨q,_⟩ | ⟨_,rfl,B3⟩)
 ·exact absurd q HP.out
 have BB3:=hid (BB2.out.trans (B3.mono BB2.out.size))
 have HBX3:=hid (HBX.out.below HBX.out.lt B3)
 clear B3
 go_wp2_with (first | (refine fwpList_store rfl (.tmp 4) (.tmp 28) rfl w.heap.size false none 0 0 none 0 0 _ _ _ rfl rfl (HBX3.out.below HBX3.out.lt ((Below.refl _ _).alloc (Nat.le_refl _) _)) ?_; intro cs HC))
 refine bodyPost_ret (v:=_) (fres_two rfl _ rfl HC) rfl ⟨rfl,?_⟩
 exact (BB3.out.alloc BB3.out.size _).trans (frow_below cs (Nat.le_refl _))
end
end Go.Proofs.YtogchamogbendaaGreat.Bs
namespace Go.Proofs.YtogchamogbendaaGreat.Bs
open Lib (hid)
open Go.RowKit Oct Mv Tl Pk Pl Go.Maps Go.ChangeMaps
open Lf (Nd Fit nodePage RowN ToldN)
def lastR (ks:List UInt64) (k:Nat) (e:UInt64):UInt64:=if k+1=ks.length then e else if e.toNat≤(ks.getD (k+1) 0-1).toNat then e else ks.getD (k+1) 0-1
set_option maxHeartbeats 1000000 in
theorem last_end (l:Bool) {w:World} {K V:Option Addr} {n c m d:Nat} {ks vs:List UInt64} (h:Nd w K n c V m d ks vs) (k:Nat) (e:UInt64) (hk:k+1=n) (hn:n≤7) :
  Calls Tryz.prog 170 #[.agg #[.bool l,.slice K n c,.slice V m d],.int .i64 (k:Int),.int .u64 (e.toNat:Int)] w fun r w'=>r = .returned (.int .u64 ((lastR ks k e).toNat:Int))∧Below w.heap.size w w':=by
 have e1:lastR ks k e=e:=by unfold lastR; rw [if_pos (by rw [h.kl]; exact hk)]
 have E1:=hid e1
 have HBX:=hid (show RowV _ w.heap.size 107 [.bool l,.slice K n c,.slice V m d] from alloc_rowV w _ _)
 have c1:=HBX.out.cellAt (i:=1) rfl
 have g1:(k:Int)+1=(n:Int):=by omega
 have g2:IntKind.i64.wrap ((k:Int)+1)=(n:Int):=by rw [g1]; exact wrap_i64 (by omega) (by omega)
 clear h e1
 go_enter Tryz.func170,Tryz.ntmps170
 go_wp2_with fail
 go_ret
 exact ⟨by rw [E1.out]; rfl,(Below.refl _ _).alloc (Nat.le_refl _) _⟩
set_option maxHeartbeats 1000000 in
theorem last_mid (l:Bool) {w:World} {K V:Option Addr} {n c m d:Nat} {ks vs:List UInt64} (h:Nd w K n c V m d ks vs) (k:Nat) (e:UInt64) (hk:k+1<n) (hn:n≤7) (h1:1≤(ks.getD (k+1) 0).toNat) :
  Calls Tryz.prog 170 #[.agg #[.bool l,.slice K n c,.slice V m d],.int .i64 (k:Int),.int .u64 (e.toNat:Int)] w fun r w'=>r = .returned (.int .u64 ((lastR ks k e).toNat:Int))∧Below w.heap.size w w':=by
 have e1:lastR ks k e=if e.toNat≤(ks.getD (k+1) 0-1).toNat then e else ks.getD (k+1) 0-1:=by unfold lastR; rw [if_neg (by rw [h.kl]; omega)]
 have E1:=hid e1
 have H:=hid (h.boxed (.cells #[.bool l,.slice K n c,.slice V m d] 107))
 have HBX:=hid (show RowV _ w.heap.size 107 [.bool l,.slice K n c,.slice V m d] from alloc_rowV w _ _)
 have c1:=HBX.out.cellAt (i:=1) rfl
 have g1 : ¬((k:Int)+1=(n:Int)):=by omega
 have g2:IntKind.i64.wrap ((k:Int)+1)=((k+1:Nat):Int):=by exact wrap_i64 (by omega) (by omega)
 have g3:((k+1:Nat):Int)<(n:Int):=by omega
 obtain ⟨b,o,rfl,hH⟩ : ∃b o,K=some ⟨b,o,none⟩∧Lf.HasN _ b o ks:=by
  rcases H.out.ks with q | q
  ·have:=h.kl; rw [q] at this; simp at this; omega
  ·exact q
 have kl:=h.kl
 obtain ⟨y,hy⟩ : ∃y,ks.getD (k+1) 0=y:=⟨_,rfl⟩
 have cK:=hH (k+1) (by omega)
 rw [show ks[k+1]'(by omega)=y by rw [← hy,List.getD_eq_getElem?_getD,List.getElem?_eq_getElem (by omega)]; rfl] at cK
 rw [hy] at h1
 have E2:=hid (show lastR ks k e=if e.toNat≤(y-1).toNat then e else y-1 by rw [e1,hy])
 have y1:(y-1).toNat=y.toNat-1:=by
  have:=y.toNat_lt
  rw [UInt64.toNat_sub_of_le _ _ (by rw [UInt64.le_iff_toNat_le]; simpa using h1)]
  rfl
 obtain ⟨z,hz⟩ : ∃z,y-1=z:=⟨_,rfl⟩
 rw [hz] at y1
 have E3:=hid (show lastR ks k e=if e.toNat≤z.toNat then e else z by rw [E2.out,hz])
 have hwr:IntKind.u64.wrap ((y.toNat:Int)-1)=(z.toNat:Int):=by
  rw [show ((y.toNat:Int)-1)=(z.toNat:Int) by omega]
  exact IntWalk.u64_in _ (by have:=z.toNat_lt; omega)
 clear h e1 E1 E2 hy hH hz y1 h1
 go_enter Tryz.func170,Tryz.ntmps170
 go_wp2_with fail
 have E4:min (e.toNat:Int) (z.toNat:Int)=((lastR ks k e).toNat:Int):=by
  rw [E3.out]
  by_cases q:e.toNat≤z.toNat
  ·rw [if_pos q]; omega
  ·rw [if_neg q]; omega
 rw [E4]
 go_ret
 exact ⟨rfl,(Below.refl _ _).alloc (Nat.le_refl _) _⟩
end Go.Proofs.YtogchamogbendaaGreat.Bs
namespace Go.Proofs.YtogchamogbendaaGreat.Bs
open Go.RowKit Oct Mv Tl Pk Pl Go.Maps Go.ChangeMaps
open Lf (Nd Fit nodePage RowN ToldN)
structure NR where
 l:Bool
 ks:List UInt64
 vs:List UInt64
 e:Nat
open Classical in
noncomputable def nodeR (x:BS) (n:Nat) (i:Int):NR :=
 if 2≤i∧i<(n:Int) then (if Lf.Holds (x.has i.toNat) then ⟨Lf.leafIn (x.has i.toNat),Lf.keysIn (x.has i.toNat),Lf.valsIn (x.has i.toNat),0⟩ else ⟨false,[],[],130⟩) else ⟨false,[],[],2⟩
theorem nodeR_bad (x:BS) (n:Nat) {i:Int} (h:i<2∨(n:Int)≤i):nodeR x n i=⟨false,[],[],2⟩:=by unfold nodeR; rw [if_neg (by omega)]
theorem nodeR_no (x:BS) (n:Nat) {i:Nat} (h2:2≤i) (hi:i<n) (h : ¬Lf.Holds (x.has i)):nodeR x n (i:Int)=⟨false,[],[],130⟩:=by
 unfold nodeR
 rw [if_pos (by omega),Int.toNat_natCast,if_neg h]
theorem nodeR_holds (x:BS) (n:Nat) {i:Nat} (h2:2≤i) (hi:i<n) (h:Lf.Holds (x.has i)):nodeR x n (i:Int)=⟨Lf.leafIn (x.has i),Lf.keysIn (x.has i),Lf.valsIn (x.has i),0⟩:=by
 unfold nodeR
 rw [if_pos (by omega),Int.toNat_natCast,if_pos h]
theorem nodeR_yes (x:BS) (n:Nat) {i:Nat} (h2:2≤i) (hi:i<n) {l:Bool} {ks vs:List UInt64} (hf:Fit l ks vs) (hp:x.has i=nodePage l ks vs):nodeR x n (i:Int)=⟨l,ks,vs,0⟩:=by
 rw [nodeR_holds x n h2 hi (by rw [hp]; exact Lf.holds_page l ks vs hf),hp,Lf.leaf_in,Lf.keys_in l ks vs hf.2.1 hf.1,Lf.vals_in l ks vs hf.2.1 hf.1]
theorem nodeR_fit {x:BS} {n:Nat} {i:Int} (h:(nodeR x n i).e=0):Fit (nodeR x n i).l (nodeR x n i).ks (nodeR x n i).vs:=by
 unfold nodeR at h ⊢
 split at h
 ·rename_i g
  rw [if_pos g]
  split at h
  ·rename_i k
   rw [if_pos k]
   exact k.2.2.2.1
  ·cases h
 ·cases h
section
variable {Pr:Nat→Prop} {w w':World} {A:Adr} {x:BS}
theorem fnode_any {n:Nat} (hf:Fed n x) (h:BAt Pr w A x) (i:Int) (t:NR) (ht:t=nodeR x n i) :
  Calls Tryz.prog 61 #[.pointer (some ⟨A.b,0,none⟩),.int .i64 i] w fun e w' =>
   ∃K k V v,e = .returned (.tuple #[.agg #[.bool t.l,.slice K t.ks.length k,.slice V t.vs.length v],.int .i64 (t.e:Nat)])∧Nd w' K t.ks.length k V t.vs.length v t.ks t.vs∧Below w.heap.size w w'∧NewA w.heap.size K∧NewA w.heap.size V:=by
 by_cases g:i<2∨(n:Int)≤i
 ·rw [nodeR_bad x n g] at ht
  subst ht
  refine (fnode_bad hf h i g).mono ?_
  rintro e w' ⟨rfl,B⟩
  exact ⟨none,0,none,0,rfl,Lf.nd_nil w',B,newA_none _,newA_none _⟩
 ·obtain ⟨j,rfl⟩ : ∃j:Nat,i=(j:Int):=⟨i.toNat,by omega⟩
  have h2:2≤j:=by omega
  have hj:j<n:=by omega
  by_cases k:Lf.Holds (x.has j)
  ·rw [nodeR_holds x n h2 hj k] at ht
   subst ht
   exact fnode_yes hf h j h2 hj _ _ _ k.2.2.2.1 k.2.2.2.2.symm
  ·rw [nodeR_no x n h2 hj k] at ht
   subst ht
   refine (fnode_tree hf h j h2 hj k).mono ?_
   rintro e w' ⟨rfl,B⟩
   exact ⟨none,0,none,0,rfl,Lf.nd_nil w',B,newA_none _,newA_none _⟩
end
end Go.Proofs.YtogchamogbendaaGreat.Bs
namespace Go.Proofs.YtogchamogbendaaGreat.Bs
open Lib (hid)
open Go.RowKit Oct Mv Tl Pk Pl Go.Maps Go.ChangeMaps
open Lf (Nd Fit nodePage RowN ToldN)
open No (atR at_any)
structure WR where
 l:Bool
 ks:List UInt64
 vs:List UInt64
 high:Nat
 last:UInt64
 e:Nat
def noWay (e:Nat):WR:=⟨false,[],[],0,0,e⟩
noncomputable def downF (x:BS) (n:Nat) (key:UInt64):Nat→Nat→Int→UInt64→WR
 | 0,_,_,_=>noWay 130
 | f+1,lv,z,en =>
  if (nodeR x n z).e≠0 then noWay (nodeR x n z).e
  else if (nodeR x n z).l then ⟨true,(nodeR x n z).ks,(nodeR x n z).vs,lv+1,en,0⟩
  else downF x n key f (lv+1) (IntKind.i64.wrap (((nodeR x n z).vs.getD (atR (nodeR x n z).l (nodeR x n z).ks (nodeR x n z).vs key).1 0).toNat:Int)) (lastR (nodeR x n z).ks (atR (nodeR x n z).l (nodeR x n z).ks (nodeR x n z).vs key).1 en)
def maxU:UInt64:=18446744073709551615
noncomputable def downR (x:BS) (n:Nat) (root:Int) (key:UInt64):WR:=if root=0 then ⟨true,[],[],0,maxU,0⟩ else downF x n key 8 0 root maxU
theorem wcells_zero (w:World):(zeroValue 189).run Tryz.prog w = .ok (.agg #[.bool false,.slice none 0 0,.slice none 0 0,.int .i64 0,.int .u64 0]) w:=by kernel_rfl
theorem fit_at {ks vs:List UInt64} (h:Fit false ks vs) (key:UInt64):(atR false ks vs key).1<ks.length∧ks.length≤7∧vs.length=ks.length∧0<ks.length:=by
 obtain ⟨h1,h2,h3,h4⟩:=h
 have h0:0<ks.length:=by rcases h4 with h4 | h4; cases h4; exact h4.1
 refine ⟨?_,h1,h2,h0⟩
 unfold atR
 rw [if_pos ⟨h1,h2,h3,.inr h0⟩]
 have:=No.low_le ks key
 split
 ·show No.low ks key-1<ks.length
  omega
 ·rename_i k
  have hm:key∈ks:=Classical.byContradiction fun q=>k ⟨rfl,q⟩
  exact No.low_lt hm
theorem rises_one {ks vs:List UInt64} (h:Fit false ks vs) {i:Nat} (hi:i+1<ks.length):1≤(ks.getD (i+1) 0).toNat:=by
 have hp:=h.2.2.1
 unfold Lf.Rises at hp
 have:=List.pairwise_iff_getElem.1 hp 0 (i+1) (by omega) hi (by omega)
 rw [List.getD_eq_getElem?_getD,List.getElem?_eq_getElem hi]
 show 1≤(ks[i+1]).toNat
 omega
theorem way_size:(Tryz.prog.info? 189).map (·.size)=some 5:=by kernel_rfl
theorem wayStore {ops:Array Oper} {rest:List Oper} {o:Oper} {a:Act} {w:World} {Q:Exit→Act→World→Prop} (hgd:o.guard=none) (x y:Operand) (ho:o.op = .store 189 x y)
  (r:Nat) (l:Bool) (K:Option Addr) (n k:Nat) (V:Option Addr) (m v:Nat) (p q:Int) (x0 y0 z0 u0 v0:Value) (hx:a.eval x = .pointer (some ⟨r,0,none⟩)) (hy:a.eval y = .agg #[.bool l,.slice K n k,.slice V m v,.int .i64 p,.int .u64 q]) (hr:RowV w r 189 [x0,y0,z0,u0,v0])
  (h : ∀cs,RowV (w.setRow r cs) r 189 [.bool l,.slice K n k,.slice V m v,.int .i64 p,.int .u64 q]→wpList Tryz.prog ops Q rest (a.put o.dst undef) (w.setRow r cs)):wpList Tryz.prog ops Q (o :: rest) a w :=
 wpList_plain hgd fun _ hK=>wp_store_row 189 x y ho r #[.bool l,.slice K n k,.slice V m v,.int .i64 p,.int .u64 q] hx hy _ _ hr way_size rfl (by simp [Value.oneCell']) (hK _ _ (h _ (frow_set hr)))
theorem fres_way {fn:Func} {p q:Tmp} (h:fn.results = #[.cell p 189,.tmp q]) (tmps:Array Value) {w:World} {r:Nat} {x0 y0 z0 u0 v0:Value} (hp:tmps.getD p undef = .pointer (some ⟨r,0,none⟩)) (hr:RowV w r 189 [x0,y0,z0,u0,v0]):(results fn tmps).run Tryz.prog w = .ok (.tuple #[.agg #[x0,y0,z0,u0,v0],tmps.getD q undef]) w:=by
 have hp':tmps[p]?.getD undef = .pointer (some ⟨r,0,none⟩):=by simpa using hp
 have hl:(loadVar 189 ⟨r,0,none⟩).run Tryz.prog w = .ok (.agg #[x0,y0,z0,u0,v0]) w:=run_loadVar_row w r 189 _ _ (0,0) _ hr Tryz.underlying189 rfl way_size
 simp [results,h,hp',asAddr,Sem.run_bind,Result.andThen,hl]
theorem nd_but {w w':World} {K V:Option Addr} {n k m v B X:Nat} {ks vs:List UInt64} (h:Nd w K n k V m v ks vs) (hK:NewA B K) (hV:NewA B V) (hX:X<B) (kk : ∀j,j≠X→w'.heap[j]?=w.heap[j]?):Nd w' K n k V m v ks vs:=by
 have tell : ∀ {Z:Option Addr} {ns:List UInt64},NewA B Z→ToldN w Z ns→ToldN w' Z ns:=fun {Z ns} hZ hT=>by
  rcases hT with e | ⟨b,o,e,hh⟩
  ·exact .inl e
  ·refine .inr ⟨b,o,e,fun i hi => ?_⟩
   have:=hh i hi
   unfold World.cell? at this ⊢
   rw [kk b (by have:=hZ b o e; omega)]
   exact this
 exact ⟨h.kl,h.vl,h.kc,h.km,h.vc,h.vm,tell hK h.ks,tell hV h.vs⟩
theorem NewA.mono {B B':Nat} {K:Option Addr} (h:NewA B K) (k:B'≤B):NewA B' K:=fun b o e=>Nat.le_trans k (h b o e)
theorem last_any (l:Bool) {w:World} {K V:Option Addr} {n c m d:Nat} {ks vs:List UInt64} (h:Nd w K n c V m d ks vs) (kid:Nat) (e:UInt64) (hk:kid<n) (hn:n≤7) (h1:kid+1<n→1≤(ks.getD (kid+1) 0).toNat) :
  Calls Tryz.prog 170 #[.agg #[.bool l,.slice K n c,.slice V m d],.int .i64 (kid:Int),.int .u64 (e.toNat:Int)] w fun r w'=>r = .returned (.int .u64 ((lastR ks kid e).toNat:Int))∧Below w.heap.size w w':=by
 by_cases q:kid+1=n
 ·exact last_end l h kid e q hn
 ·exact last_mid l h kid e (by omega) hn (h1 (by omega))
section
variable {Pr:Nat→Prop} {w w':World} {A:Adr} {x:BS}
def WayOut (t:WR) (w:World) (e:Ending) (w':World):Prop :=
 ∃K k V v,e = .returned (.tuple #[.agg #[.bool t.l,.slice K t.ks.length k,.slice V t.vs.length v,.int .i64 (t.high:Nat),.int .u64 (t.last.toNat:Int)],.int .i64 (t.e:Nat)])∧Nd w' K t.ks.length k V t.vs.length v t.ks t.vs∧Below w.heap.size w w'∧NewA w.heap.size K∧NewA w.heap.size V
set_option maxHeartbeats 4000000 in
theorem down_any {n:Nat} (hf:Fed n x) (h:BAt Pr w A x) (root:Int) (key:UInt64) (hr : -9223372036854775808≤root∧root≤9223372036854775807) (t:WR) (ht:t=downR x n root key) :
  Calls Tryz.prog 117 #[.pointer (some ⟨A.b,0,none⟩),.int .i64 root,.int .u64 (key.toNat:Int)] w (WayOut t w):=by
 have HF:=hid hf
 have HT:=hid ht
 have hz:=wcells_zero
 have r0:=alloc_rowV w 189 [.bool false,.slice none 0 0,.slice none 0 0,.int .i64 0,.int .u64 0]
 have b0:=(Below.refl w.heap.size w).alloc (Nat.le_refl _) (.cells #[.bool false,.slice none 0 0,.slice none 0 0,.int .i64 0,.int .u64 0] 189)
 have H1:=hid (h.below b0)
 have HBK:=hid (And.intro hf.blk (And.intro hf.lo hf.hi))
 clear h hf ht
 go_enter Tryz.func117,Tryz.ntmps117
 go_upto_region 1 with (fail)
 obtain ⟨X6,hX6⟩ : ∃X,X=w.heap.size:=⟨_,rfl⟩
 have R0:=hid r0
 have HB0:=hid b0
 rw [← hX6] at R0 ⊢
 have HX6:=hid hX6
 clear hz r0 b0 hX6
 simp only [List.toArray] at *
 generalize w.alloc (.cells #[.bool false,.slice none 0 0,.slice none 0 0,.int .i64 0,.int .u64 0] 189)=w1 at *
 by_cases h0:root=0
 ·subst h0
  go_wp2_with fail
  refine (blocks_at H1.out (by rw [HBK.out.1]; have:=HBK.out.2.2; omega)).mono ?_
  rintro e w' ⟨rfl,rfl⟩
  rw [HBK.out.1]
  have hn0:(0:Int)<(n:Int):=by have:=HBK.out.2.1; omega
  go_wp2_with (refine wayStore rfl (.tmp 6) (.tmp 26) rfl X6 true none 0 0 none 0 0 0 18446744073709551615 _ _ _ _ _ rfl rfl R0.out ?_; intro cs HC)
  refine bodyPost_ret (v:=_) (fres_way rfl _ rfl HC) rfl ⟨none,0,none,0,?_,?_,?_⟩
  ·rw [HT.out]
   unfold downR
   rw [if_pos rfl]
   rfl
  ·rw [HT.out]
   unfold downR
   rw [if_pos rfl]
   exact Lf.nd_nil _
  ·exact ⟨HB0.out.trans (frow_below cs (by rw [HX6.out]; exact Nat.le_refl _)),newA_none _,newA_none _⟩
 ·have HT2:=hid (show t=downF x n key 8 0 root maxU from by rw [HT.out]; unfold downR; rw [if_neg h0])
  have HRR:=hid hr
  clear HT hr
  go_upto_region 4 with (fail)
  go_upto_region 5 with (fail)
  go_loopw [27,8,9] (fun i a en wr => ∃(lv:Nat) (iz:Int) (m:UInt64),lv≤8∧i = .int .i64 (lv:Int)∧a = .int .i64 iz∧en = .int .u64 (m.toNat:Int)∧Hid (-9223372036854775808≤iz∧iz≤9223372036854775807)∧Hid (t=downF x n key (8-lv) lv iz m)∧Hid (Below w1.heap.size w1 wr)) (fun i _ _ _=>8-(Go.RowKit.intOf i).toNat)
  case atStart=>exact ⟨0,root,maxU,by omega,rfl,rfl,rfl,HRR,HT2,hid (Below.refl _ _)⟩
  case round =>
   obtain ⟨lv,iz,m,hlv,rfl,rfl,rfl,HZ,HTT,HBr⟩:=hrel
   have HX:=hid (H1.out.below HBr.out)
   have R1:=hid (R0.out.below R0.out.lt HBr.out)
   by_cases hlt:lv<8
   ·have hli:(lv:Int)<8:=by omega
    have hl0:(0:Int)≤(lv:Int):=by omega
    obtain ⟨u,hu⟩ : ∃u,u=nodeR x n iz:=⟨_,rfl⟩
    have HU:=hid hu
    have HTU:=hid (show t=if u.e≠0 then noWay u.e else if u.l then ⟨true,u.ks,u.vs,lv+1,m,0⟩ else downF x n key (8-(lv+1)) (lv+1) (IntKind.i64.wrap ((u.vs.getD (atR u.l u.ks u.vs key).1 0).toNat:Int)) (lastR u.ks (atR u.l u.ks u.vs key).1 m) from by
     rw [HTT.out,show 8-lv=(8-(lv+1))+1 by omega,downF,← HU.out])
    clear hu HTT
    go_wp2_with fail
    refine (fnode_any HF.out HX.out iz u HU.out).mono ?_
    rintro e w2 ⟨Ka,k,Va,v,rfl,hnd,kz,nK,nV⟩
    have HND:=hid hnd
    have HNEW:=hid (show NewA wr.heap.size Ka∧NewA wr.heap.size Va∧X6<wr.heap.size∧w.heap.size≤wr.heap.size from ⟨nK,nV,R1.out.lt,Nat.le_trans HB0.out.size HBr.out.size⟩)
    clear nK nV
    have HB2:=hid (HBr.out.trans (kz.mono HBr.out.size))
    have R2:=hid (R1.out.below R1.out.lt kz)
    clear hnd kz HX R1 HBr
    have r3:=alloc_rowV w2 107 [.bool u.l,.slice Ka u.ks.length k,.slice Va u.vs.length v]
    have b3:=(Below.refl w2.heap.size w2).alloc (Nat.le_refl _) (.cells #[.bool u.l,.slice Ka u.ks.length k,.slice Va u.vs.length v] 107)
    go_upto_region 8 with (fail)
    obtain ⟨X11,hX11⟩ : ∃X,X=w2.heap.size:=⟨_,rfl⟩
    have R3:=hid r3
    have HB3:=hid (HB2.out.trans (b3.mono HB2.out.size))
    have HND3:=hid (HND.out.below b3)
    have R6:=hid (R2.out.below R2.out.lt b3)
    rw [← hX11] at R3 ⊢
    have HX11:=hid hX11
    clear r3 b3 hX11 HND HB2 R2
    simp only [List.toArray] at *
    generalize w2.alloc (.cells #[.bool u.l,.slice Ka u.ks.length k,.slice Va u.vs.length v] 107)=w3 at *
    by_cases he:u.e=0
    ·have heb:((u.e:Nat):Int)=0:=by omega
     rw [heb]
     cases hl:u.l with
     | true =>
      have R3':=hid (show RowV w3 X11 107 [.bool true,.slice Ka u.ks.length k,.slice Va u.vs.length v] from by rw [← hl]; exact R3.out)
      have c0:=R3'.out.cellAt (i:=0) rfl
      have c1:=R3'.out.cellAt (i:=1) rfl
      have c2:=R3'.out.cellAt (i:=2) rfl
      have HTV:=hid (show t=⟨true,u.ks,u.vs,lv+1,m,0⟩ from by rw [HTU.out,if_neg (fun q=>q he),if_pos hl])
      have hl8:(lv:Int)+1≤8:=by omega
      clear hl HTU R3
      go_wp2_with (refine wayStore rfl (.tmp 6) (.tmp 46) rfl X6 true Ka u.ks.length k Va u.vs.length v ((lv:Int)+1) (m.toNat:Int) _ _ _ _ _ rfl rfl R6.out ?_; intro cs HC)
      refine bodyPost_ret (v:=_) (fres_way rfl _ rfl HC) rfl ⟨Ka,k,Va,v,?_,?_,?_⟩
      ·rw [HTV.out]
       rfl
      ·rw [HTV.out]
       exact nd_but HND3.out HNEW.out.1 HNEW.out.2.1 HNEW.out.2.2.1 (fun j hj=>setRow_other _ _ _ _ hj)
      ·exact ⟨(HB0.out.trans (HB3.out.mono HB0.out.size)).trans (frow_below cs (by rw [HX6.out]; exact Nat.le_refl _)),HNEW.out.1.mono HNEW.out.2.2.2,HNEW.out.2.1.mono HNEW.out.2.2.2⟩
     | false =>
      have R3':=hid (show RowV w3 X11 107 [.bool false,.slice Ka u.ks.length k,.slice Va u.vs.length v] from by rw [← hl]; exact R3.out)
      have c0:=R3'.out.cellAt (i:=0) rfl
      have c1:=R3'.out.cellAt (i:=1) rfl
      have c2:=R3'.out.cellAt (i:=2) rfl
      have hfit:=nodeR_fit (x:=x) (n:=n) (i:=iz) (by rw [← HU.out]; exact he)
      rw [← HU.out,hl] at hfit
      have HFT:=hid hfit
      have HTV:=hid (show t=downF x n key (8-(lv+1)) (lv+1) (IntKind.i64.wrap ((u.vs.getD (atR false u.ks u.vs key).1 0).toNat:Int)) (lastR u.ks (atR false u.ks u.vs key).1 m) from by rw [HTU.out,if_neg (fun q=>q he),if_neg (by rw [hl]; decide),hl])
      clear hl HTU R3 hfit
      go_wp2_with fail
      refine (at_any false HND3.out key _ rfl).mono ?_
      rintro e w4 ⟨rfl,kz⟩
      have HB4:=hid (HB3.out.trans (kz.mono HB3.out.size))
      have HND4:=hid (HND3.out.below kz)
      have R4:=hid (R3'.out.below R3'.out.lt kz)
      have R64:=hid (R6.out.below R6.out.lt kz)
      have HA:=hid (fit_at HFT.out key)
      obtain ⟨kid,hkid⟩ : ∃kid,kid=(atR false u.ks u.vs key).1:=⟨_,rfl⟩
      rw [← hkid] at HTV HA
      obtain ⟨ax,hax⟩ : ∃ax,ax=atR false u.ks u.vs key:=⟨_,rfl⟩
      have HKD:=hid (show ax.1=kid from by rw [hax,hkid])
      rw [← hax,HKD.out]
      clear kz HB3 HND3 R3' R6 c0 c1 c2 hkid hax
      obtain ⟨bV,oV,eV,hV⟩ : ∃b o,Va=some ⟨b,o,none⟩∧Lf.HasN w4 b o u.vs:=by
       rcases HND4.out.vs with q | q
       ·have h1:=HA.out.2.2.1
        have h2:=HA.out.2.2.2
        rw [q,List.length_nil] at h1
        omega
       ·exact q
      subst eV
      have HVV:=hid hV
      obtain ⟨vv,hvv⟩ : ∃vv,vv=u.vs.getD kid 0:=⟨_,rfl⟩
      have HV2:=hid hvv
      rw [← hvv] at HTV
      clear hV hvv
      go_upto_region 13 with (fail)
      refine Inv2.wp_region_inv (fun b a wy => ∃(z:Nat→Value),a=⟨(List.toArray (Value.pointer (some ⟨A.b,0,none⟩) :: Value.int IntKind.i64 root :: Value.int IntKind.u64 ↑key.toNat :: undef :: undef :: undef :: Value.pointer (some ⟨X6,0,none⟩) :: u7 :: (z 8) :: (z 9) :: Value.int IntKind.i64 ↑lv :: Value.pointer (some ⟨X11,0,none⟩) :: Value.int IntKind.i64 0 :: Value.int IntKind.i64 ↑kid :: Value.bool ax.snd.fst :: Value.int IntKind.i64 ↑ax.snd.snd :: Value.int IntKind.i64 root :: Value.int IntKind.i64 root :: Value.bool (root==0) :: Value.bool (root==0) :: undef :: undef :: undef :: Value.bool false :: undef :: undef :: undef :: Value.int IntKind.i64 ↑lv :: Value.bool true :: Value.int IntKind.i64 ↑lv :: Value.tuple { toList := [Value.agg { toList := [Value.bool false,Value.slice Ka u.ks.length k,Value.slice (some ⟨bV,oV,none⟩) u.vs.length v] },Value.int IntKind.i64 0] } :: Value.pointer (some ⟨A.b,0,none⟩) :: Value.int IntKind.i64 iz :: Value.tuple { toList := [Value.agg { toList := [Value.bool false,Value.slice Ka u.ks.length k,Value.slice (some ⟨bV,oV,none⟩) u.vs.length v] },Value.int IntKind.i64 0] } :: Value.agg { toList := [Value.bool false,Value.slice Ka u.ks.length k,Value.slice (some ⟨bV,oV,none⟩) u.vs.length v] } :: Value.int IntKind.i64 0 :: Value.int IntKind.i64 0 :: Value.bool false :: u38 :: u39 :: Value.pointer (some ⟨X11,0,none⟩) :: Value.bool false :: u42 :: u43 :: u44 :: u45 :: u46 :: Value.tuple #[Value.int IntKind.i64 ↑kid,Value.bool ax.snd.fst,Value.int IntKind.i64 ↑ax.snd.snd] :: Value.agg #[Value.bool false,Value.slice Ka u.ks.length k,Value.slice (some ⟨bV,oV,none⟩) u.vs.length v] :: Value.int IntKind.u64 ↑key.toNat :: Value.tuple #[Value.int IntKind.i64 ↑kid,Value.bool ax.snd.fst,Value.int IntKind.i64 ↑ax.snd.snd] :: Value.int IntKind.i64 ↑kid :: Value.bool ax.snd.fst :: Value.int IntKind.i64 ↑ax.snd.snd :: (z 54) :: (z 55) :: (z 56) :: (z 57) :: (z 58) :: (z 59) :: (z 60) :: (z 61) :: (z 62) :: (z 63) :: u64 :: undef :: [])),[]⟩∧Hid ((b 0=true→(z 54) = .pointer (some ⟨X11,2,none⟩))∧(b 1=true→(z 55) = .slice (some ⟨bV,oV,none⟩) u.vs.length v)∧(b 2=true→(z 56)=Value.int IntKind.i64 ↑kid)∧(b 3=true→(z 57) = .pointer (some ⟨bV,oV+kid,none⟩))∧(b 4=true→(z 58) = .int .u64 (vv.toNat:Int))∧(b 5=true→(z 59) = .int .i64 (IntKind.i64.wrap (vv.toNat:Int)))∧(b 6=true→(z 60) = .agg #[.bool false,.slice Ka u.ks.length k,.slice (some ⟨bV,oV,none⟩) u.vs.length v])∧(b 7=true→(z 61)=Value.int IntKind.i64 ↑kid)∧(b 8=true→(z 62)=Value.int IntKind.u64 ↑m.toNat)∧(b 9=true→(z 63) = .int .u64 ((lastR u.ks kid m).toNat:Int))∧(b 10=true→(z 8) = .int .i64 (IntKind.i64.wrap (vv.toNat:Int)))∧(b 11=true→(z 9) = .int .u64 ((lastR u.ks kid m).toNat:Int)))∧Hid (Below w4.heap.size w4 wy)∧Hid ((b 11=false→(z 9) = .int .u64 (m.toNat:Int))∧(b 11=true→b 8=true))) (by kernel_rfl) (by kernel_rfl) ?startD ?stepsD ?doneD
      case startD =>
       intro b hb
       refine ⟨fun s=>if s=8 then Value.int IntKind.i64 iz else if s=9 then Value.int IntKind.u64 ↑m.toNat else if s=54 then u54 else if s=55 then u55 else if s=56 then u56 else if s=57 then u57 else if s=58 then u58 else if s=59 then u59 else if s=60 then u60 else if s=61 then u61 else if s=62 then u62 else if s=63 then u63 else undef,rfl,hid ⟨?_,?_,?_,?_,?_,?_,?_,?_,?_,?_,?_,?_⟩,hid ((show Still w4 w4.drew from ⟨rfl,rfl,rfl,rfl⟩).below _),hid (⟨fun _=>rfl,fun e=>absurd (e.symm.trans (hb 11 (by decide))) (by decide)⟩)⟩
       all_goals (intro e; first | rfl | (rw [hb _ (by decide)] at e; cases e))
      case stepsD =>
       refine ⟨?_,?_,?_,?_,?_,?_,?_,?_,?_,?_,?_,?_,trivial⟩
       ·rintro b a wy hb hd ⟨z,rfl,HV,HW,HX⟩ K hK
        clear hd
        go_simp
        have V:=HV.out
        exact hK _ _ ⟨fun s=>if s=54 then .pointer (some ⟨X11,2,none⟩) else z s,rfl,hid ⟨fun _=>rfl,V.2.1,V.2.2.1,V.2.2.2.1,V.2.2.2.2.1,V.2.2.2.2.2.1,V.2.2.2.2.2.2.1,V.2.2.2.2.2.2.2.1,V.2.2.2.2.2.2.2.2.1,V.2.2.2.2.2.2.2.2.2.1,V.2.2.2.2.2.2.2.2.2.2.1,V.2.2.2.2.2.2.2.2.2.2.2⟩,HW,HX⟩
       ·rintro b a wy hb hd ⟨z,rfl,HV,HW,HX⟩ K hK
        simp [Region.binds] at hd
        have e0:(z 54) = .pointer (some ⟨X11,2,none⟩):=(HV.out.1) (by simp [hd])
        clear hd
        have hrw:=R4.out.below R4.out.lt HW.out
        have q2:=hrw.cellAt (i:=2) rfl
        clear hrw
        go_simp
        have V:=HV.out
        exact hK _ _ ⟨fun s=>if s=55 then .slice (some ⟨bV,oV,none⟩) u.vs.length v else if s=54 then .pointer (some ⟨X11,2,none⟩) else z s,rfl,hid ⟨fun _=>rfl,fun _=>rfl,V.2.2.1,V.2.2.2.1,V.2.2.2.2.1,V.2.2.2.2.2.1,V.2.2.2.2.2.2.1,V.2.2.2.2.2.2.2.1,V.2.2.2.2.2.2.2.2.1,V.2.2.2.2.2.2.2.2.2.1,V.2.2.2.2.2.2.2.2.2.2.1,V.2.2.2.2.2.2.2.2.2.2.2⟩,HW,HX⟩
       ·rintro b a wy hb hd ⟨z,rfl,HV,HW,HX⟩ K hK
        clear hd
        go_simp
        have V:=HV.out
        exact hK _ _ ⟨fun s=>if s=56 then Value.int IntKind.i64 ↑kid else z s,rfl,hid ⟨V.1,V.2.1,fun _=>rfl,V.2.2.2.1,V.2.2.2.2.1,V.2.2.2.2.2.1,V.2.2.2.2.2.2.1,V.2.2.2.2.2.2.2.1,V.2.2.2.2.2.2.2.2.1,V.2.2.2.2.2.2.2.2.2.1,V.2.2.2.2.2.2.2.2.2.2.1,V.2.2.2.2.2.2.2.2.2.2.2⟩,HW,HX⟩
       ·rintro b a wy hb hd ⟨z,rfl,HV,HW,HX⟩ K hK
        simp [Region.binds] at hd
        have e1:(z 55) = .slice (some ⟨bV,oV,none⟩) u.vs.length v:=(HV.out.2.1) (by simp [hd])
        have e2:(z 56)=Value.int IntKind.i64 ↑kid:=(HV.out.2.2.1) (by simp [hd])
        clear hd
        have hk1:(kid:Int)<(u.vs.length:Int):=by have h1:=HA.out.1; have h2:=HA.out.2.2.1; omega
        have hk0:(0:Int)≤(kid:Int):=by omega
        go_simp
        have V:=HV.out
        exact hK _ _ ⟨fun s=>if s=57 then .pointer (some ⟨bV,oV+kid,none⟩) else if s=55 then .slice (some ⟨bV,oV,none⟩) u.vs.length v else if s=56 then Value.int IntKind.i64 ↑kid else z s,rfl,hid ⟨V.1,fun _=>rfl,fun _=>rfl,fun _=>rfl,V.2.2.2.2.1,V.2.2.2.2.2.1,V.2.2.2.2.2.2.1,V.2.2.2.2.2.2.2.1,V.2.2.2.2.2.2.2.2.1,V.2.2.2.2.2.2.2.2.2.1,V.2.2.2.2.2.2.2.2.2.2.1,V.2.2.2.2.2.2.2.2.2.2.2⟩,HW,HX⟩
       ·rintro b a wy hb hd ⟨z,rfl,HV,HW,HX⟩ K hK
        simp [Region.binds] at hd
        have e3:(z 57) = .pointer (some ⟨bV,oV+kid,none⟩):=(HV.out.2.2.2.1) (by simp [hd])
        clear hd
        have hcell:=(HVV.out.below (HVV.out.lt (by have h1:=HA.out.1; have h2:=HA.out.2.2.1; omega)) HW.out) kid (by have h1:=HA.out.1; have h2:=HA.out.2.2.1; omega)
        rw [show u.vs[kid]'(by have h1:=HA.out.1; have h2:=HA.out.2.2.1; omega)=vv by rw [HV2.out,List.getD_eq_getElem?_getD,List.getElem?_eq_getElem (by have h1:=HA.out.1; have h2:=HA.out.2.2.1; omega)]; rfl] at hcell
        go_simp
        have V:=HV.out
        exact hK _ _ ⟨fun s=>if s=58 then .int .u64 (vv.toNat:Int) else if s=57 then .pointer (some ⟨bV,oV+kid,none⟩) else z s,rfl,hid ⟨V.1,V.2.1,V.2.2.1,fun _=>rfl,fun _=>rfl,V.2.2.2.2.2.1,V.2.2.2.2.2.2.1,V.2.2.2.2.2.2.2.1,V.2.2.2.2.2.2.2.2.1,V.2.2.2.2.2.2.2.2.2.1,V.2.2.2.2.2.2.2.2.2.2.1,V.2.2.2.2.2.2.2.2.2.2.2⟩,HW,HX⟩
       ·rintro b a wy hb hd ⟨z,rfl,HV,HW,HX⟩ K hK
        simp [Region.binds] at hd
        have e4:(z 58) = .int .u64 (vv.toNat:Int):=(HV.out.2.2.2.2.1) (by simp [hd])
        clear hd
        go_simp
        have V:=HV.out
        exact hK _ _ ⟨fun s=>if s=59 then .int .i64 (IntKind.i64.wrap (vv.toNat:Int)) else if s=58 then .int .u64 (vv.toNat:Int) else z s,rfl,hid ⟨V.1,V.2.1,V.2.2.1,V.2.2.2.1,fun _=>rfl,fun _=>rfl,V.2.2.2.2.2.2.1,V.2.2.2.2.2.2.2.1,V.2.2.2.2.2.2.2.2.1,V.2.2.2.2.2.2.2.2.2.1,V.2.2.2.2.2.2.2.2.2.2.1,V.2.2.2.2.2.2.2.2.2.2.2⟩,HW,HX⟩
       ·rintro b a wy hb hd ⟨z,rfl,HV,HW,HX⟩ K hK
        clear hd
        have hrw:=R4.out.below R4.out.lt HW.out
        have q0:=hrw.cellAt (i:=0) rfl
        have q1:=hrw.cellAt (i:=1) rfl
        have q2:=hrw.cellAt (i:=2) rfl
        clear hrw
        go_simp
        have V:=HV.out
        exact hK _ _ ⟨fun s=>if s=60 then .agg #[.bool false,.slice Ka u.ks.length k,.slice (some ⟨bV,oV,none⟩) u.vs.length v] else z s,rfl,hid ⟨V.1,V.2.1,V.2.2.1,V.2.2.2.1,V.2.2.2.2.1,V.2.2.2.2.2.1,fun _=>rfl,V.2.2.2.2.2.2.2.1,V.2.2.2.2.2.2.2.2.1,V.2.2.2.2.2.2.2.2.2.1,V.2.2.2.2.2.2.2.2.2.2.1,V.2.2.2.2.2.2.2.2.2.2.2⟩,HW,HX⟩
       ·rintro b a wy hb hd ⟨z,rfl,HV,HW,HX⟩ K hK
        clear hd
        go_simp
        have V:=HV.out
        exact hK _ _ ⟨fun s=>if s=61 then Value.int IntKind.i64 ↑kid else z s,rfl,hid ⟨V.1,V.2.1,V.2.2.1,V.2.2.2.1,V.2.2.2.2.1,V.2.2.2.2.2.1,V.2.2.2.2.2.2.1,fun _=>rfl,V.2.2.2.2.2.2.2.2.1,V.2.2.2.2.2.2.2.2.2.1,V.2.2.2.2.2.2.2.2.2.2.1,V.2.2.2.2.2.2.2.2.2.2.2⟩,HW,HX⟩
       ·rintro b a wy hb hd ⟨z,rfl,HV,HW,HX⟩ K hK
        clear hd
        have n11:b 11=false:=by rcases hB:b 11 with _ | _; (· rfl); (· exact absurd (HX.out.2 hB) (by rw [hb]; decide))
        have h9:=HX.out.1 n11
        go_simp
        have V:=HV.out
        exact hK _ _ ⟨fun s=>if s=62 then Value.int IntKind.u64 ↑m.toNat else if s=9 then .int .u64 (m.toNat:Int) else z s,rfl,hid ⟨V.1,V.2.1,V.2.2.1,V.2.2.2.1,V.2.2.2.2.1,V.2.2.2.2.2.1,V.2.2.2.2.2.2.1,V.2.2.2.2.2.2.2.1,fun _=>rfl,V.2.2.2.2.2.2.2.2.2.1,V.2.2.2.2.2.2.2.2.2.2.1,(fun e=>absurd (n11.symm.trans (show b 11=true from e)) (by decide))⟩,HW,hid ⟨fun _=>rfl,fun _=>rfl⟩⟩
       ·rintro b a wy hb hd ⟨z,rfl,HV,HW,HX⟩ K hK
        simp [Region.binds] at hd
        have e6:(z 60) = .agg #[.bool false,.slice Ka u.ks.length k,.slice (some ⟨bV,oV,none⟩) u.vs.length v]:=(HV.out.2.2.2.2.2.2.1) (by simp [hd])
        have e7:(z 61)=Value.int IntKind.i64 ↑kid:=(HV.out.2.2.2.2.2.2.2.1) (by simp [hd])
        have e8:(z 62)=Value.int IntKind.u64 ↑m.toNat:=(HV.out.2.2.2.2.2.2.2.2.1) (by simp [hd])
        clear hd
        go_simp
        go_at_call 170
        refine (last_any false (HND4.out.below HW.out) kid m HA.out.1 HA.out.2.1 (rises_one HFT.out)).mono ?_
        rintro e wz ⟨rfl,kz⟩
        try go_simp
        have V:=HV.out
        exact hK _ _ ⟨fun s=>if s=63 then .int .u64 ((lastR u.ks kid m).toNat:Int) else if s=60 then .agg #[.bool false,.slice Ka u.ks.length k,.slice (some ⟨bV,oV,none⟩) u.vs.length v] else if s=61 then Value.int IntKind.i64 ↑kid else if s=62 then Value.int IntKind.u64 ↑m.toNat else z s,rfl,hid ⟨V.1,V.2.1,V.2.2.1,V.2.2.2.1,V.2.2.2.2.1,V.2.2.2.2.2.1,fun _=>rfl,fun _=>rfl,fun _=>rfl,fun _=>rfl,V.2.2.2.2.2.2.2.2.2.2.1,V.2.2.2.2.2.2.2.2.2.2.2⟩,hid (HW.out.trans (kz.mono HW.out.size)),HX⟩
       ·rintro b a wy hb hd ⟨z,rfl,HV,HW,HX⟩ K hK
        simp [Region.binds] at hd
        have e5:(z 59) = .int .i64 (IntKind.i64.wrap (vv.toNat:Int)):=(HV.out.2.2.2.2.2.1) (by simp [hd])
        clear hd
        go_simp
        have V:=HV.out
        exact hK _ _ ⟨fun s=>if s=8 then .int .i64 (IntKind.i64.wrap (vv.toNat:Int)) else if s=59 then .int .i64 (IntKind.i64.wrap (vv.toNat:Int)) else z s,rfl,hid ⟨V.1,V.2.1,V.2.2.1,V.2.2.2.1,V.2.2.2.2.1,fun _=>rfl,V.2.2.2.2.2.2.1,V.2.2.2.2.2.2.2.1,V.2.2.2.2.2.2.2.2.1,V.2.2.2.2.2.2.2.2.2.1,fun _=>rfl,V.2.2.2.2.2.2.2.2.2.2.2⟩,HW,HX⟩
       ·rintro b a wy hb hd ⟨z,rfl,HV,HW,HX⟩ K hK
        simp [Region.binds] at hd
        have e9:(z 63) = .int .u64 ((lastR u.ks kid m).toNat:Int):=(HV.out.2.2.2.2.2.2.2.2.2.1) (by simp [hd])
        have k8:b 8=true:=by simp [hd]
        have HK8:=hid k8
        clear k8
        clear hd
        go_simp
        have V:=HV.out
        exact hK _ _ ⟨fun s=>if s=9 then .int .u64 ((lastR u.ks kid m).toNat:Int) else if s=63 then .int .u64 ((lastR u.ks kid m).toNat:Int) else z s,rfl,hid ⟨V.1,V.2.1,V.2.2.1,V.2.2.2.1,V.2.2.2.2.1,V.2.2.2.2.2.1,V.2.2.2.2.2.2.1,V.2.2.2.2.2.2.2.1,V.2.2.2.2.2.2.2.2.1,fun _=>rfl,V.2.2.2.2.2.2.2.2.2.2.1,fun _=>rfl⟩,HW,hid ⟨fun e=>(by cases e),fun _=>HK8.out⟩⟩
      case doneD =>
       rintro b a wy hb ⟨z,rfl,HV,HW,HX⟩
       have e0:=(HV.out.1) (hb 0)
       have e1:=(HV.out.2.1) (hb 1)
       have e2:=(HV.out.2.2.1) (hb 2)
       have e3:=(HV.out.2.2.2.1) (hb 3)
       have e4:=(HV.out.2.2.2.2.1) (hb 4)
       have e5:=(HV.out.2.2.2.2.2.1) (hb 5)
       have e6:=(HV.out.2.2.2.2.2.2.1) (hb 6)
       have e7:=(HV.out.2.2.2.2.2.2.2.1) (hb 7)
       have e8:=(HV.out.2.2.2.2.2.2.2.2.1) (hb 8)
       have e9:=(HV.out.2.2.2.2.2.2.2.2.2.1) (hb 9)
       have e10:=(HV.out.2.2.2.2.2.2.2.2.2.2.1) (hb 10)
       have e11:=(HV.out.2.2.2.2.2.2.2.2.2.2.2) (hb 11)
       simp only [e0,e1,e2,e3,e4,e5,e6,e7,e8,e9,e10,e11]
       clear HV e0 e1 e2 e3 e4 e5 e6 e7 e8 e9 e10 e11
       clear hb HX
       go_wp2_with fail
       go_roundw
       case rel=>exact ⟨lv+1,_,_,by omega,by go_num,rfl,rfl,hid (by rw [IntKind.wrap_i64]; omega),HTV,hid (HB4.out.trans (HW.out.mono HB4.out.size))⟩
       case measure=>simp [Go.RowKit.intOf]; omega
    ·have hei : ¬(((u.e:Nat):Int)=0):=by omega
     go_wp2_with (refine wayStore rfl (.tmp 6) (.tmp 38) rfl X6 false none 0 0 none 0 0 0 0 _ _ _ _ _ rfl rfl R6.out ?_; intro cs HC)
     refine bodyPost_ret (v:=_) (fres_way rfl _ rfl HC) rfl ⟨none,0,none,0,?_,?_,?_⟩
     ·rw [HTU.out,if_pos he]
      rfl
     ·rw [HTU.out,if_pos he]
      exact Lf.nd_nil _
     ·exact ⟨(HB0.out.trans (HB3.out.mono HB0.out.size)).trans (frow_below cs (by rw [HX6.out]; exact Nat.le_refl _)),newA_none _,newA_none _⟩
   ·obtain rfl:lv=8:=by omega
    have hli : ¬(((8:Nat):Int)<8):=by omega
    go_wp2_with (refine wayStore rfl (.tmp 6) (.tmp 65) rfl X6 false none 0 0 none 0 0 0 0 _ _ _ _ _ rfl rfl R1.out ?_; intro cs HC)
    refine bodyPost_ret (v:=_) (fres_way rfl _ rfl HC) rfl ⟨none,0,none,0,?_,?_,?_⟩
    ·rw [HTT.out]
     rfl
    ·rw [HTT.out]
     exact Lf.nd_nil _
    ·exact ⟨(HB0.out.trans (HBr.out.mono HB0.out.size)).trans (frow_below cs (by rw [HX6.out]; exact Nat.le_refl _)),newA_none _,newA_none _⟩
end
end Go.Proofs.YtogchamogbendaaGreat.Bs
