import Derived.Deep.DeepCutAuto
import Derived.BigQuiet
import Derived.Lib.MinMax
import Derived.Deep.CutBlock
import Derived.RegionTactic
import Derived.ChangeAlike
import Derived.BigRegion
import Derived.Deep.RegionWith
import Derived.SizedLaws
import Derived.Test.YtogchamogbendaaGreatQtD
set_option maxRecDepth 100000
set_option linter.unusedVariables false
set_option linter.unusedSimpArgs false
namespace Go.Proofs.YtogchamogbendaaGreat.Bs
open Lib (hid)
open Go.RowKit Oct Mv Tl Pk Pl Go.Maps Go.ChangeMaps
open Lf (Nd Fit nodePage RowN ToldN Rises)
open No (atR at_any)
set_option maxHeartbeats 4000000 in
theorem awake13b (w:World):Calls Tryz.prog 48 #[] w fun e w'=>e = .returned (.bool true)∧Below w.heap.size w w':=by
 go_enter Tryz.func48,Tryz.ntmps48
 go_wp2_with fail
 refine (show Calls Tryz.prog 49 #[.int .i64 40] w _ from base_made 40 (by omega) (by omega) w).mono ?_
 rintro e w1 ⟨A,y,rfl,hbg,hA,hat,B1⟩
 have hy:y=fY:=fw_y hbg
 subst hy
 have HA:=hid hA
 have HBG:=hid hbg
 have HF0:=hid (made_fed (by omega) (by omega) hbg)
 have H1:=hid hat
 have HB1:=hid B1
 clear hbg hA hat B1
 go_wp2_with fail
 have bl:=(Below.refl w1.heap.size w1).alloc (Nat.le_refl _) (.cells #[.int .u64 2,.int .u64 20,.int .u64 5,.int .u64 50] 104)
 have rl:=alloc_rowV w1 104 [.int .u64 2,.int .u64 20,.int .u64 5,.int .u64 50]
 have hir:IRow (w1.alloc (.cells #[.int .u64 2,.int .u64 20,.int .u64 5,.int .u64 50] 104)) (some ⟨w1.heap.size,0,none⟩) 2 2 [(2,20),(5,50)]:=⟨rfl,Nat.le_refl _,by decide,(show HasV _ w1.heap.size 0 (ivs [(2,20),(5,50)]) from rl.has).told⟩
 refine (build_any HF0.out (H1.out.below bl) [(2,20),(5,50)] hir ⟨by decide,by decide⟩ (by rw [fw_room.2.1,fw_room.2.2,fw_room.1,tot_one (by decide)]; decide) (by unfold Ris; decide) (fun b o e hm=>by have:=H1.out.list_lt b hm; cases e; omega)).mono ?_
 rintro e w2 ⟨b,rfl,y9,lv9,_,_,_,_,hone,hat,hb⟩
 obtain ⟨hfd,rfl⟩:=hone (by decide)
 obtain rfl:b=4:=fw_found hfd
 have HX:=hid (fw1 HBG.out hfd)
 have HB2:=hid (lowb HA.out (HB1.out.trans (bl.mono HB1.out.size)) hb (Nat.le_refl _))
 have H2:=hid (show BAt _ w2 A ((made0 40 fY).put 4 (nodePage true [2,5] [20,50])) from hat)
 generalize (made0 40 fY).put 4 (nodePage true [2,5] [20,50])=x1 at *
 clear hfd hat hb bl rl hir H1 HB1 HF0 HBG
 go_wp2_with fail
 refine (show Calls Tryz.prog 52 #[.pointer (some ⟨A.b,0,none⟩),.int .i64 0] w2 (fun e w'=>e = .returned (.bool true)∧Below (World.heap w2).size w2 w') from fright_is HX.out.fed H2.out 0 (by omega) true fw_right0.symm).mono ?_
 rintro e w3 ⟨rfl,kz⟩
 have H3:=hid (H2.out.below kz)
 have HB3:=hid (HB2.out.trans (kz.mono HB2.out.size))
 clear kz H2 HB2
 go_wp2_with fail
 refine (show Calls Tryz.prog 52 #[.pointer (some ⟨A.b,0,none⟩),.int .i64 4] w3 (fun e w'=>e = .returned (.bool true)∧Below (World.heap w3).size w3 w') from fright_is HX.out.fed H3.out 4 (by omega) true (fw_right HX.out.node).symm).mono ?_
 rintro e w4 ⟨rfl,kz⟩
 have H4:=hid (H3.out.below kz)
 have HB4:=hid (HB3.out.trans (kz.mono HB3.out.size))
 clear kz H3 HB3
 go_wp2_with fail
 refine (show Calls Tryz.prog 53 #[.pointer (some ⟨A.b,0,none⟩),.int .i64 4,.int .u64 5] w4 (fun e w'=>e = .returned (.tuple #[.int .u64 50,.bool true,.int .i64 0])∧Below (World.heap w4).size w4 w') from get_of 4 5 leafW (down_any HX.out.fed H4.out 4 5 (by omega) leafW (fw_down HX.out.node 5).symm) (50,true,0) fw_get.symm).mono ?_
 rintro e w5 ⟨rfl,kz⟩
 have H5:=hid (H4.out.below kz)
 have HB5:=hid (HB4.out.trans (kz.mono HB4.out.size))
 clear kz H4 HB4
 go_wp2_with fail
 refine (show Calls Tryz.prog 55 #[.pointer (some ⟨A.b,0,none⟩),.int .i64 4,.int .u64 0,.int .u64 9,.int .i64 9] w5 (fun e w' => ∃v,e = .returned (.tuple #[v,.int .i64 0])∧OwnJ w' w5.heap.size v [(2,20),(5,50)]∧Below w5.heap.size w5 w') from walk_base HX.out.fed H5.out 4 (by omega) 0 9 9 (([(2,20),(5,50)]:List Itm).map (fun p=>(p,0))) (by rw [walkL_one (downR x1 40 4) 9 0 leafW (fw_down HX.out.node 0) rfl (by decide),fw_run1]) (.inl (by decide)) ([(2,20),(5,50)],0) (by decide)).mono ?_
 rintro e w6 ⟨va,rfl,ho,kz⟩
 have H6:=hid (H5.out.below kz)
 have HB6:=hid (HB5.out.trans (kz.mono HB5.out.size))
 have HLa:=hid (show OwnJ w6 w5.heap.size va [(2,20),(5,50)] ∧ ∀j∈A.list,j<w5.heap.size from ⟨ho,H5.out.list_lt⟩)
 obtain ⟨ga,ca,rfl⟩:=ownsRow_succ (k:=1) ho
 have HKa:=hid (ButL.refl w6 A.list)
 clear kz ho H5 HB5
 go_wp2_with fail
 refine (show Calls Tryz.prog 55 #[.pointer (some ⟨A.b,0,none⟩),.int .i64 4,.int .u64 3,.int .u64 9,.int .i64 9] w6 (fun e w' => ∃v,e = .returned (.tuple #[v,.int .i64 0])∧OwnJ w' w6.heap.size v [(5,50)]∧Below w6.heap.size w6 w') from walk_base HX.out.fed H6.out 4 (by omega) 3 9 9 (([(5,50)]:List Itm).map (fun p=>(p,0))) (by rw [walkL_one (downR x1 40 4) 9 3 leafW (fw_down HX.out.node 3) rfl (by decide),fw_run2]) (.inl (by decide)) ([(5,50)],0) (by decide)).mono ?_
 rintro e w7 ⟨vb,rfl,ho,kz⟩
 have H7:=hid (H6.out.below kz)
 have HB7:=hid (HB6.out.trans (kz.mono HB6.out.size))
 have HLb:=hid (show OwnJ w7 w6.heap.size vb [(5,50)] ∧ ∀j∈A.list,j<w6.heap.size from ⟨ho,H6.out.list_lt⟩)
 obtain ⟨gb,cb,rfl⟩:=ownsRow_succ (k:=0) ho
 have HKa:=hid (HKa.out.trans (ButL.of_below A.list kz (Nat.le_refl _)))
 have HKb:=hid (ButL.refl w7 A.list)
 clear kz ho H6 HB6
 go_wp2_with fail
 refine (show Calls Tryz.prog 56 #[.pointer (some ⟨A.b,0,none⟩),.int .i64 4] w7 (fun e w'=>e = .returned (.tuple #[.int .i64 1,.int .i64 0])∧Below (World.heap w7).size w7 w') from height_of 4 leafW (down_any HX.out.fed H7.out 4 0 (by omega) leafW (fw_down HX.out.node 0).symm)).mono ?_
 rintro e w8 ⟨rfl,kz⟩
 have H8:=hid (H7.out.below kz)
 have HB8:=hid (HB7.out.trans (kz.mono HB7.out.size))
 have HKa:=hid (HKa.out.trans (ButL.of_below A.list kz (Nat.le_refl _)))
 have HKb:=hid (HKb.out.trans (ButL.of_below A.list kz (Nat.le_refl _)))
 clear kz H7 HB7
 go_wp2_with fail
 refine (show Calls Tryz.prog 53 #[.pointer (some ⟨A.b,0,none⟩),.int .i64 0,.int .u64 5] w8 (fun e w'=>e = .returned (.tuple #[.int .u64 0,.bool false,.int .i64 0])∧Below (World.heap w8).size w8 w') from get_of 0 5 ⟨true,[],[],0,maxU,0⟩ (down_any HX.out.fed H8.out 0 5 (by omega) _ (fw_zero 5).symm) (0,false,0) (fw_get0 5).symm).mono ?_
 rintro e w9 ⟨rfl,kz⟩
 have H9:=hid (H8.out.below kz)
 have HB9:=hid (HB8.out.trans (kz.mono HB8.out.size))
 have HKa:=hid (HKa.out.trans (ButL.of_below A.list kz (Nat.le_refl _)))
 have HKb:=hid (HKb.out.trans (ButL.of_below A.list kz (Nat.le_refl _)))
 clear kz H8 HB8
 go_wp2_with fail
 have b1:=(Below.refl w9.heap.size w9).alloc (Nat.le_refl _) (.cells #[.int .u64 0,.int .u64 5] 30)
 have r1:=alloc_rowV w9 30 [.int .u64 0,.int .u64 5]
 have s1:(w9.alloc (.cells #[.int .u64 0,.int .u64 5] 30)).heap.size=w9.heap.size+1:=World.size_alloc ..
 have b2:=(Below.refl (w9.alloc (.cells #[.int .u64 0,.int .u64 5] 30)).heap.size (w9.alloc (.cells #[.int .u64 0,.int .u64 5] 30))).alloc (Nat.le_refl _) (.cells #[.int .u64 4,.int .u64 9] 30)
 have r2:=alloc_rowV (w9.alloc (.cells #[.int .u64 0,.int .u64 5] 30)) 30 [.int .u64 4,.int .u64 9]
 rw [s1] at r2 b2
 have r1b:=r1.below (by omega) b2
 have b12:=b1.trans (b2.mono (by omega))
 have hnd:Nd ((w9.alloc (.cells #[.int .u64 0,.int .u64 5] 30)).alloc (.cells #[.int .u64 4,.int .u64 9] 30)) (some ⟨w9.heap.size,0,none⟩) 2 2 (some ⟨w9.heap.size+1,0,none⟩) 2 2 [0,5] [4,9]:=⟨rfl,rfl,Nat.le_refl _,by decide,Nat.le_refl _,by decide,.inr ⟨_,_,rfl,fun i hi=>by
  match i,hi with
  | 0,_=>exact r1b.cellAt (i:=0) rfl
  | 1,_=>exact r1b.cellAt (i:=1) rfl⟩,.inr ⟨_,_,rfl,fun i hi=>by
  match i,hi with
  | 0,_=>exact r2.cellAt (i:=0) rfl
  | 1,_=>exact r2.cellAt (i:=1) rfl⟩⟩
 refine (put_law HX.out.fed (H9.out.below b12) HX.out.room false hnd fit_two).mono ?_
 rintro e w10 ⟨bb,rfl,hfd,hat,hb⟩
 have HY:=hid (fw2 HX.out hfd)
 have HB10:=hid (lowb HA.out (HB9.out.trans (b12.mono HB9.out.size)) hb (Nat.le_refl _))
 have H10:=hid (show BAt _ w10 A (x1.put bb (nodePage false [0,5] [4,9])) from hat)
 have HKa:=hid (HKa.out.trans ((ButL.of_below A.list b12 (Nat.le_refl _)).trans hb))
 have HKb:=hid (HKb.out.trans ((ButL.of_below A.list b12 (Nat.le_refl _)).trans hb))
 generalize x1.put bb (nodePage false [0,5] [4,9])=x2 at *
 clear b1 r1 s1 b2 r2 r1b b12 hnd hfd hat hb H9 HB9
 go_wp2_with fail
 refine (show Calls Tryz.prog 61 #[.pointer (some ⟨A.b,0,none⟩),.int .i64 2] w10 _ from fnode_any HY.out.fed H10.out 2 ⟨false,[],[],130⟩ HY.out.two.symm).mono ?_
 rintro e w11 ⟨KK,kk,VV,vv,rfl,_,kz,_,_⟩
 have al:=(Below.refl w11.heap.size w11).alloc (Nat.le_refl _) (.cells #[.bool false,.slice KK 0 kk,.slice VV 0 vv] 107)
 have BB:=kz.trans (al.mono kz.size)
 have H11:=hid (H10.out.below BB)
 have HB11:=hid (HB10.out.trans (BB.mono HB10.out.size))
 have hkb:=HKb.out.trans (ButL.of_below A.list BB (Nat.le_refl _))
 have hob:=World.ownsRow.cellAt HLb.out.1 0 (by decide)
 have hbl:=(HLb.out.1.lt (k:=gb) rfl)
 have cb:(w11.alloc (.cells #[.bool false,.slice KK 0 kk,.slice VV 0 vv] 107)).cell? ⟨gb,0,none⟩=some (.int .u64 5):=(World.cell?_of_block (a:=⟨gb,0,none⟩) (hkb.block gb hbl.2 (fun q=>by have:=HLb.out.2 gb q; omega))).trans (hob.trans rfl)
 have hbp:((bb:Nat):Int)<40∧(0:Int)≤(bb:Int):=by have:=HY.out.pos.2; omega
 clear kz al BB hkb hob hbl
 go_wp2_with fail
 refine (show Calls Tryz.prog 52 #[.pointer (some ⟨A.b,0,none⟩),.int .i64 (bb:Int)] _ (fun e w'=>e = .returned (.bool false)∧Below _ _ w') from fright_is HY.out.fed H11.out (bb:Int) (by omega) false (fw_wrong HY.out.top HY.out.node HY.out.pos.1).symm).mono ?_
 rintro e wz ⟨rfl,kz⟩
 go_wp2_with fail
 go_ret
 exact ⟨rfl,HB11.out.trans (kz.mono HB11.out.size)⟩
end Go.Proofs.YtogchamogbendaaGreat.Bs
namespace Go.Proofs.YtogchamogbendaaGreat.Bs
open Go.RowKit Oct Mv Tl Pk Pl Go.Maps Go.ChangeMaps
open Lf (Nd Fit nodePage RowN ToldN Rises CameN)
theorem IRow.below {w w':World} {A:Option Addr} {n c:Nat} {l:List Itm} (h:IRow w A n c l) (k:Below w.heap.size w w'):IRow w' A n c l:=⟨h.el,h.kc,h.km,h.es.below k⟩
end Go.Proofs.YtogchamogbendaaGreat.Bs
namespace Go.Proofs.YtogchamogbendaaGreat.Bs
open Lib (hid)
open Go.RowKit Oct Mv Tl Pk Pl Go.Maps Go.ChangeMaps
open Lf (Nd Fit nodePage RowN ToldN Rises CameN)
set_option maxHeartbeats 2000000 in
theorem made_big {A:Option Addr} {n c:Nat} {w:World} (hn:200<n) (hm:n≤maxLen):Calls Tryz.prog 60 #[.slice A n c] w fun e w'=>e = .returned (.tuple #[.pointer none,.int .i64 0,.bool false])∧Below w.heap.size w w':=by
 have hbi:(200:Int)<(n:Int):=by omega
 unfold maxLen at hm
 go_enter Tryz.func60,Tryz.ntmps60
 go_wp2_with fail
 refine (show Calls Tryz.prog 49 #[.int .i64 200] w _ from base_made 200 (by omega) (by omega) w).mono ?_
 rintro e w1 ⟨B,z,rfl,hbg,hB,hat,k1⟩
 have K1:=hid k1
 clear hbg hB hat k1
 go_wp2_with fail
 refine bodyPost_ret (v:=_) (No.res_iii rfl _) rfl ⟨rfl,K1.out⟩
structure Yard (w w':World) (l:List Itm) (B:Adr) (root:Nat) (y:BS):Prop where
 wood:Wood y 200 (risingF l) root
 at_:BAt (fun k=>k<w.heap.size) w' B y
 up : ∀k∈B.list,w.heap.size≤k
 low:Below w.heap.size w w'
set_option maxHeartbeats 4000000 in
theorem made_yes {A:Option Addr} {n c:Nat} {l:List Itm} {w:World} (h:IRow w A n c l) (hn:n≤200):Calls Tryz.prog 60 #[.slice A n c] w fun e w' => ∃(B:Adr) (root:Nat) (y:BS),e = .returned (.tuple #[.pointer (some ⟨B.b,0,none⟩),.int .i64 (root:Int),.bool true])∧Yard w w' l B root y:=by
 have H:=hid h
 have hbi : ¬(200:Int)<(n:Int):=by omega
 clear h
 go_enter Tryz.func60,Tryz.ntmps60
 go_wp2_with fail
 refine (show Calls Tryz.prog 49 #[.int .i64 200] w _ from base_made 200 (by omega) (by omega) w).mono ?_
 rintro e w1 ⟨B,z,rfl,hbg,hB,hat,k1⟩
 have HBG:=hid hbg
 have HB:=hid hB
 have HAT:=hid hat
 have K1:=hid k1
 clear hbg hB hat k1
 go_wp2_with fail
 refine (rising_any (H.out.below K1.out) (by omega) (risingF l) rfl).mono ?_
 rintro e w2 ⟨v,rfl,ho,k2⟩
 obtain ⟨G,cap,rfl,hg,_⟩:=ho.slice
 have hgl:=risingF_len l
 have HRI:=hid (risingF_ris l)
 have hll:=H.out.el
 have hNb:(risingF l).length≤200:=by omega
 have HSEP:=hid (show ∀b o,G=some ⟨b,o,none⟩→b∉B.list from fun b o e hmm=>by
  subst e
  have h1:=(ho.lt (k:=b) rfl).1
  have h2:=HAT.out.list_lt b hmm
  omega)
 have HG2:=hid hg
 have K2:=hid (K1.out.trans (k2.mono K1.out.size))
 have HAT2:=hid (HAT.out.below k2)
 clear ho hg k2 hgl hll
 go_wp2_with fail
 refine (build_wood HBG.out HAT2.out HG2.out hNb HRI.out HSEP.out).mono ?_
 rintro e w3 ⟨root,y,rfl,hw,hat3,hb3⟩
 have HY:=hid (show Yard w w3 l B root y from ⟨hw,hat3,HB.out,lowb HB.out K2.out hb3 (Nat.le_refl _)⟩)
 clear hw hat3 hb3
 go_wp2_with fail
 refine bodyPost_ret (v:=_) (No.res_iii rfl _) rfl ⟨B,root,y,rfl,HY.out⟩
end Go.Proofs.YtogchamogbendaaGreat.Bs
namespace Go.Proofs.YtogchamogbendaaGreat.Bs
open Go.RowKit Oct Mv Tl Pk Pl Go.Maps Go.ChangeMaps
open Lf (Nd Fit nodePage RowN ToldN Rises Kids)
open No (atR at_any low Ok)
theorem over_has (x:BS) (b:Nat) (bs:List UInt8) (i:Nat):(x.over b bs).has i=if i=b then bs else x.has i:=by
 unfold BS.has
 show ((if i=b then some bs else x.fr i).getD (x.D.says i))=_
 split <;> rfl
theorem over_node (x:BS) (n b:Nat) (bs:List UInt8) {z:Int} (h:z≠(b:Int)):nodeR (x.over b bs) n z=nodeR x n z:=by
 unfold nodeR
 by_cases hz:2≤z∧z<(n:Int)
 ·have e:(x.over b bs).has z.toNat=x.has z.toNat:=by rw [over_has,if_neg (by omega)]
  rw [if_pos hz,if_pos hz,e]
 ·rw [if_neg hz,if_neg hz]
structure Twig (y:BS) (root:Nat) (ks vs:List UInt64) (segs:List (List Itm)):Prop where
 node:nodeR y 200 (root:Int)=⟨false,ks,vs,0⟩
 fit:Fit false ks vs
 two:2≤ks.length
 sl:segs.length=ks.length
 kid : ∀i,i<ks.length→nodeR y 200 ((vs.getD i 0).toNat:Int)=⟨true,(segs.getD i []).map Prod.fst,(segs.getD i []).map Prod.snd,0⟩ ∧ ∃v r,segs.getD i []=(ks.getD i 0,v) :: r
 ris:Ris segs.flatten
 lo:2≤root∧root<200
 far : ∀i,i<ks.length→(vs.getD i 0).toNat≠root∧2≤(vs.getD i 0).toNat∧(vs.getD i 0).toNat<200
theorem twig_of {y:BS} {l:List Itm} {root:Nat} (h:Wood y 200 l root) (hr:Ris l) (h8:8≤l.length) (h49:l.length≤49) : ∃ks vs segs,Twig y root ks vs segs∧Held y (root:Int):=by
 rcases h.2 with ⟨rfl,_⟩ | ⟨lv,hh,ht,hu⟩
 ·simp at h8
 ·have hup:upH l.length=2:=by rw [upH_more (by omega),upH_one (by omega)]
  obtain rfl:lv=1:=by omega
  obtain ⟨hp,ks,vs,segs,he,h1,h2,h3,h4,h5⟩:=ht
  have hfit:Fit false ks vs:=by have:=nodeR_fit (x:=y) (n:=200) (i:=(root:Int)) (by rw [he]); rw [he] at this; exact this
  have hl:=hh.lt h.1
  refine ⟨ks,vs,segs,⟨he,hfit,h3,h1,fun i hi=>⟨(h5 i hi).1.2.1,(h5 i hi).2⟩,by rw [← h2]; exact hr,by omega,fun i hi => ?_⟩,hh⟩
  have hk:=(h5 i hi).1.1.lt h.1
  refine ⟨fun e => ?_,by omega,by omega⟩
  have e2:=(h5 i hi).1.2.1
  rw [e,he] at e2
  cases e2
def Spoilt (y:BS) (root:Nat) (ks vs:List UInt64):Prop:=Fit false ks vs∧rightR (y.over root (nodePage false ks vs)) 200 (root:Int)=false
section
variable {y:BS} {root:Nat} {ks vs:List UInt64} {segs:List (List Itm)}
theorem Twig.spoilt (T:Twig y root ks vs segs) {ks' vs':List UInt64} (hf:Fit false ks' vs') {j:Nat} (hj:j<ks.length) (h0:vs'.getD 0 0=vs.getD j 0)
  (hw:nodeR (y.over root (nodePage false ks' vs')) 200 (root:Int)=⟨false,ks',vs',0⟩→fitsR false ks' 2 2 0 maxU=false ∨ ∃i,i<vs'.length∧rightF (y.over root (nodePage false ks' vs')) 200 1 (IntKind.i64.wrap ((vs'.getD i 0).toNat:Int)) 3 (ks'.getD i 0) (lastR ks' i maxU)=false):Spoilt y root ks' vs':=by
 refine ⟨hf,?_⟩
 have hlo:=T.lo
 have hroot:nodeR (y.over root (nodePage false ks' vs')) 200 (root:Int)=⟨false,ks',vs',0⟩:=nodeR_yes _ 200 hlo.1 hlo.2 hf (by rw [over_has,if_pos rfl])
 have hfar:=T.far j hj
 have hkid:nodeR (y.over root (nodePage false ks' vs')) 200 ((vs.getD j 0).toNat:Int)=⟨true,(segs.getD j []).map Prod.fst,(segs.getD j []).map Prod.snd,0⟩:=by
  rw [over_node _ _ _ _ (by omega)]
  exact (T.kid j hj).1
 have hwf:=hw hroot
 generalize y.over root (nodePage false ks' vs')=x' at *
 have hat:=at_spec hf 0
 have hal:=fit_at hf 0
 have hi0:(atR false ks' vs' 0).1=0:=by
  rcases hat.1 with q | q
  ·exact q
  ·rcases Nat.eq_zero_or_pos (atR false ks' vs' 0).1 with g | g
   ·exact g
   ·have:=rises_lt hf.2.2.1 g hal.1
    have e:(0:UInt64).toNat=0:=rfl
    omega
 have hd:(downR x' 200 (root:Int) 0).high=2:=by
  unfold downR
  rw [if_neg (by omega)]
  show (if (nodeR x' 200 (root:Int)).e≠0 then _ else _:WR).high=2
  rw [hroot,if_neg (fun q=>q rfl)]
  show (if false=true then _ else _:WR).high=2
  rw [if_neg (by decide),hi0,h0,wrap_i64 (by omega) (by omega)]
  show (if (nodeR x' 200 ((vs.getD j 0).toNat:Int)).e≠0 then _ else _:WR).high=2
  rw [hkid]
  rfl
 unfold rightR
 rw [hd,if_neg (by decide)]
 show (decide _&&(_&&_))=false
 rw [hroot]
 rcases hwf with q | ⟨i,hi,q⟩
 ·show (_&&(fitsR false ks' 2 2 0 maxU&&_))=false
  rw [q]
  rfl
 ·have ha:((List.range vs'.length).all fun i=>rightF x' 200 1 (IntKind.i64.wrap ((vs'.getD i 0).toNat:Int)) 3 (ks'.getD i 0) (lastR ks' i maxU))=false:=by
   rw [List.all_eq_false]
   exact ⟨i,List.mem_range.2 hi,by rw [q]; decide⟩
  show (_&&(_&&(false||(List.range vs'.length).all fun i=>rightF x' 200 1 (IntKind.i64.wrap ((vs'.getD i 0).toNat:Int)) 3 (ks'.getD i 0) (lastR ks' i maxU))))=false
  rw [ha]
  simp
theorem getD_set' (l:List UInt64) (i j:Nat) (c:UInt64):(l.set i c).getD j 0=if j=i∧i<l.length then c else l.getD j 0:=getD_set l i j c 0
theorem Twig.cut (T:Twig y root ks vs segs):Spoilt y root (ks.take 1) (vs.take 1):=by
 have h2:=T.two
 have hf:=T.fit
 have hv:=hf.2.1
 have hk1:(ks.take 1).length=1:=by rw [List.length_take]; omega
 refine T.spoilt (j:=0) ⟨by omega,by rw [hk1,List.length_take]; omega,List.Pairwise.sublist (List.take_sublist ..) hf.2.2.1,.inr ⟨by omega,?_⟩⟩ (by omega) ?_ (fun _ => .inl ?_)
 ·rcases hf.2.2.2 with q | q
  ·cases q
  ·exact ⟨fun v hv=>q.2.1 v (List.mem_of_mem_take hv),List.Nodup.sublist (List.take_sublist ..) q.2.2⟩
 ·rw [List.getD_eq_getElem?_getD,List.getElem?_take_of_lt (by omega)]
  rfl
 ·unfold fitsR
  rw [hk1]
  rfl
theorem Twig.bad (T:Twig y root ks vs segs) {i:Nat} (h1:1≤i) (hi:i<ks.length) {c:UInt64} (hc:c.toNat=root∨c.toNat=1∨c.toNat=200):Spoilt y root ks (vs.set i c):=by
 have hf:=T.fit
 have hv:=hf.2.1
 have hlo:=T.lo
 have hni:c∉vs:=fun hm=>by
  obtain ⟨j,hj,e⟩:=List.mem_iff_getElem.1 hm
  have:=T.far j (by omega)
  rw [List.getD_eq_getElem?_getD,List.getElem?_eq_getElem hj] at this
  have h3:vs[j].toNat≠root∧2≤vs[j].toNat∧vs[j].toNat<200:=this
  rw [e] at h3
  omega
 have hkk:Lf.Kids (vs.set i c):=by
  rcases hf.2.2.2 with q | q
  ·cases q
  ·refine ⟨fun v hv => ?_,?_⟩
   ·rcases List.mem_or_eq_of_mem_set hv with g | g
    ·exact q.2.1 v g
    ·rw [g]; omega
   ·have hp:=q.2.2
    refine List.pairwise_iff_getElem.2 fun a b ha hb hab => ?_
    rw [List.length_set] at ha hb
    rw [List.getElem_set,List.getElem_set]
    have hne:=List.pairwise_iff_getElem.1 hp a b ha hb hab
    split
    ·split
     ·omega
     ·intro e; exact hni (e▸List.getElem_mem hb)
    ·split
     ·intro e; exact hni (e▸List.getElem_mem ha)
     ·exact hne
 refine T.spoilt (j:=0) ⟨hf.1,by rw [List.length_set]; exact hv,hf.2.2.1,.inr ⟨by omega,hkk⟩⟩ (by omega) (by rw [getD_set',if_neg (by omega)]) (fun hroot => .inr ⟨i,by rw [List.length_set]; omega,?_⟩)
 rw [getD_set',if_pos ⟨rfl,by omega⟩,wrap_i64 (by omega) (by omega)]
 show (decide _&&(_&&_))=false
 rcases hc with e | e
 ·rw [e,hroot]
  show (_&&(fitsR false ks 1 3 (ks.getD i 0) (lastR ks i maxU)&&_))=false
  have:fitsR false ks 1 3 (ks.getD i 0) (lastR ks i maxU)=false:=by unfold fitsR; rfl
  rw [this]
  rfl
 ·rw [over_node _ _ _ _ (by omega),nodeR_bad y 200 (by omega)]
  rfl
theorem Twig.swap (T:Twig y root ks vs segs) {i:Nat} (h1:1≤i) (hi:i<ks.length):Spoilt y root ks ((vs.set i (vs.getD 0 0)).set 0 (vs.getD i 0)):=by
 have hf:=T.fit
 have hv:=hf.2.1
 have hlo:=T.lo
 have hg : ∀p,p<vs.length→((vs.set i (vs.getD 0 0)).set 0 (vs.getD i 0)).getD p 0=vs.getD (if p=0 then i else if p=i then 0 else p) 0:=fun p hp=>by
  rw [getD_set',getD_set',List.length_set]
  by_cases e0:p=0
  ·rw [if_pos ⟨e0,by omega⟩,if_pos e0]
  ·rw [if_neg (fun q=>e0 q.1),if_neg e0]
   by_cases e1:p=i
   ·rw [if_pos ⟨e1,by omega⟩,if_pos e1]
   ·rw [if_neg (fun q=>e1 q.1),if_neg e1]
 have hl:((vs.set i (vs.getD 0 0)).set 0 (vs.getD i 0)).length=vs.length:=by rw [List.length_set,List.length_set]
 have hkk:Lf.Kids ((vs.set i (vs.getD 0 0)).set 0 (vs.getD i 0)):=by
  rcases hf.2.2.2 with q | q
  ·cases q
  ·have hd : ∀a b,a<vs.length→b<vs.length→a≠b→vs.getD a 0≠vs.getD b 0:=fun a b ha hb hab e=>by
    rw [List.getD_eq_getElem?_getD,List.getD_eq_getElem?_getD,List.getElem?_eq_getElem ha,List.getElem?_eq_getElem hb] at e
    have e':vs[a]=vs[b]:=e
    rcases Nat.lt_or_ge a b with g | g
    ·exact List.pairwise_iff_getElem.1 q.2.2 a b ha hb g e'
    ·exact List.pairwise_iff_getElem.1 q.2.2 b a hb ha (by omega) e'.symm
   generalize hz:(vs.set i (vs.getD 0 0)).set 0 (vs.getD i 0)=zs at *
   have hz2 : ∀p (h:p<zs.length),zs[p]=vs.getD (if p=0 then i else if p=i then 0 else p) 0:=fun p h=>by
    rw [← hg p (by omega),List.getD_eq_getElem?_getD,List.getElem?_eq_getElem h]
    rfl
   refine ⟨fun v hm => ?_,List.pairwise_iff_getElem.2 fun a b ha hb hab => ?_⟩
   ·obtain ⟨p,hp,rfl⟩:=List.mem_iff_getElem.1 hm
    rw [hz2 p hp]
    exact q.2.1 _ (getD_mem' (by split; omega; split <;> omega))
   ·rw [hz2 a ha,hz2 b hb]
    refine hd _ _ ?_ ?_ ?_
    all_goals (repeat' split) <;> omega
 refine T.spoilt (j:=i) ⟨hf.1,by rw [hl]; exact hv,hf.2.2.1,.inr ⟨by omega,hkk⟩⟩ hi (by rw [hg 0 (by omega),if_pos rfl]) (fun hroot => .inr ⟨0,by rw [hl]; omega,?_⟩)
 have hfar:=T.far i hi
 rw [hg 0 (by omega),if_pos rfl,wrap_i64 (by omega) (by omega)]
 show (decide _&&(_&&_))=false
 rw [over_node _ _ _ _ (by omega),(T.kid i hi).1]
 obtain ⟨v,r,hs⟩:=(T.kid i hi).2
 have hrs:=take_seg (L:=segs) (i:=i) (by rw [T.sl]; exact hi) T.ris
 have k1:=rises_lt hf.2.2.1 (i:=0) (j:=1) (by omega) (by omega)
 have k2:(ks.getD 1 0).toNat≤(ks.getD i 0).toNat:=by
  rcases Nat.lt_or_ge 1 i with g | g
  ·exact Nat.le_of_lt (rises_lt hf.2.2.1 g hi)
  ·obtain rfl:i=1:=by omega
   exact Nat.le_refl _
 have k3:(lastR ks 0 maxU).toNat<(ks.getD 1 0).toNat:=by
  unfold lastR
  rw [if_neg (by omega)]
  have e1:=toNat_pred (k:=ks.getD 1 0) (by omega)
  split
  ·rename_i g
   rw [show 0+1=1 from rfl,e1] at g
   have:=(ks.getD 1 0).toNat_lt
   have e2:maxU.toNat=18446744073709551615:=rfl
   omega
  ·rw [show 0+1=1 from rfl,e1]; omega
 have k4 : ¬(((segs.getD i []).map Prod.fst).getD (((segs.getD i []).map Prod.fst).length-1) 0).toNat≤(lastR ks 0 maxU).toNat:=fun g=>by
  have hlen:0<((segs.getD i []).map Prod.fst).length:=by rw [hs]; simp
  have hm:=getD_mem' (l:=(segs.getD i []).map Prod.fst) (d:=0) (i:=((segs.getD i []).map Prod.fst).length-1) (by omega)
  obtain ⟨p,hp,e⟩:=List.mem_map.1 hm
  rw [hs] at hrs hp
  have:=hrs.head hp
  have e3:(ks.getD i 0,v).1.toNat=(ks.getD i 0).toNat:=rfl
  rw [← e] at g
  omega
 show (_&&(fitsR true ((segs.getD i []).map Prod.fst) 1 3 (ks.getD 0 0) (lastR ks 0 maxU)&&_))=false
 have:fitsR true ((segs.getD i []).map Prod.fst) 1 3 (ks.getD 0 0) (lastR ks 0 maxU)=false:=by
  unfold fitsR
  rw [decide_eq_false k4,Bool.and_false]
 rw [this]
 simp
end
end Go.Proofs.YtogchamogbendaaGreat.Bs
namespace Go.Proofs.YtogchamogbendaaGreat.Bs
open Lib (hid)
open Go.RowKit Oct Mv Tl Pk Pl Go.Maps Go.ChangeMaps
open Lf (Nd Fit nodePage RowN ToldN Rises)
open Su (Sup nth)
section
variable {Pr:Nat→Prop} {w:World} {A:Adr} {x:BS}
set_option maxHeartbeats 1000000 in
theorem fnode_rows {n:Nat} (hf:Fed n x) (h:BAt Pr w A x) (i:Nat) (h2:2≤i) (hi:i<n) (l:Bool) (ks vs:List UInt64) (ht:nodeR x n (i:Int)=⟨l,ks,vs,0⟩) :
  Calls Tryz.prog 61 #[.pointer (some ⟨A.b,0,none⟩),.int .i64 (i:Int)] w fun e w' =>
   ∃g1 g2:Nat,e = .returned (.tuple #[.agg #[.bool l,.slice (some ⟨g1,0,none⟩) ks.length ks.length,.slice (some ⟨g2,0,none⟩) ks.length ks.length],.int .i64 0])∧RowN w' g1 30 ks∧RowN w' g2 30 vs∧w.heap.size≤g1∧w.heap.size≤g2∧g1≠g2∧Below w.heap.size w w':=by
 have hfit:Fit l ks vs:=by have:=nodeR_fit (x:=x) (n:=n) (i:=(i:Int)) (by rw [ht]); rw [ht] at this; exact this
 have hp:x.has i=nodePage l ks vs:=by
  unfold nodeR at ht
  rw [if_pos (by omega),Int.toNat_natCast] at ht
  by_cases q:Lf.Holds (x.has i)
  ·rw [if_pos q] at ht
   injection ht with e1 e2 e3
   rw [← e1,← e2,← e3]
   exact q.2.2.2.2.symm
  ·rw [if_neg q] at ht
   injection ht with e1 e2 e3 e4
   cases e4
 have H:=hid h
 have HF:=hid hf
 have HP:=hid hp
 have HFit:=hid hfit
 have g1 : ¬((i:Int)<2):=by omega
 clear h hf hp hfit ht
 go_enter Tryz.func61,Tryz.ntmps61
 go_wp2_with fail
 have B1:=hid ((Below.refl w.heap.size w).alloc (Nat.le_refl _) (.cells #[.bool false,.slice none 0 0,.slice none 0 0] 107))
 refine (HF.out.read (H.out.below B1.out) i hi).mono ?_
 rintro e w2 ⟨g,c,rfl,hb,hl,hc,hm,hg,B2⟩
 rw [HP.out] at hb hl
 have HB:=hid hb
 have BB2:=hid (B1.out.trans (B2.mono B1.out.size))
 have HBX:=hid ((show RowV _ w.heap.size 107 [.bool false,.slice none 0 0,.slice none 0 0] from alloc_rowV w _ _).below (by simp) B2)
 clear hb B2
 go_wp2_with fail
 refine (Go.Proofs.YtogchamogbendaaGreat.Lf.decode_page l ks vs HFit.out ks.length rfl g 0 c w2 HB.out.1 hc hm).mono ?_
 rintro e w3 ⟨g1,g2,rfl,R1,R2,lo1,lo2,ne,B3⟩
 have s2:=BB2.out.size
 have s1:=B1.out.size
 have sz:w.heap.size<w2.heap.size:=HBX.out.lt
 have BB3:=hid (BB2.out.trans (B3.mono BB2.out.size))
 have HBX3:=hid (HBX.out.below HBX.out.lt B3)
 clear B3
 go_wp2_with (first | (refine fwpList_store rfl (.tmp 4) (.tmp 29) rfl w.heap.size l _ _ _ _ _ _ _ _ _ rfl rfl (HBX3.out.below HBX3.out.lt ((Below.refl _ _).alloc (Nat.le_refl _) _)) ?_; intro cs HC))
 refine bodyPost_ret (v:=_) (fres_two rfl _ rfl HC) rfl ⟨g1,g2,?_,?_,?_,by omega,by omega,?_,?_⟩
 ·rfl
 ·exact ((setRow_other _ _ _ _ (by omega)).trans (((Below.refl w3.heap.size w3).alloc (Nat.le_refl _) _).block g1 R1.lt)).trans R1
 ·exact ((setRow_other _ _ _ _ (by omega)).trans (((Below.refl w3.heap.size w3).alloc (Nat.le_refl _) _).block g2 R2.lt)).trans R2
 ·first | exact ne | exact fun e=>ne e.symm
 ·exact (BB3.out.alloc BB3.out.size _).trans (frow_below cs (Nat.le_refl _))
end
end Go.Proofs.YtogchamogbendaaGreat.Bs
namespace Go.Proofs.YtogchamogbendaaGreat.Bs
open Lib (hid)
open Go.RowKit Oct Mv Tl Pk Pl Go.Maps Go.ChangeMaps
open Lf (Nd Fit nodePage RowN ToldN Rises)
open Su (Sup nth)
theorem get_some {ns:List UInt64} {i:Nat} (h:i<ns.length):ns[i]?=some (ns.getD i 0):=by
 rw [List.getD_eq_getElem?_getD,List.getElem?_eq_getElem h]
 rfl
def Spt (wx:World) (X:Nat) (y:BS) (root:Nat):Prop := ∃(K:Option Addr) (k1 c1:Nat) (V:Option Addr) (k2 c2:Nat) (ks vs:List UInt64),RowV wx X 107 [.bool false,.slice K k1 c1,.slice V k2 c2]∧Nd wx K k1 c1 V k2 c2 ks vs∧Spoilt y root ks vs
theorem toldn_cut {w:World} {a:Option Addr} {ns:List UInt64} (h:ToldN w a ns) (s:Nat):ToldN w a (ns.take s):=by
 rcases h with h | ⟨b,o,rfl,h⟩
 ·subst h; exact .inl (by simp)
 ·exact .inr ⟨b,o,rfl,fun i hi=>by rw [List.length_take] at hi; rw [List.getElem_take]; exact h i (by omega)⟩
theorem spt_of {wx:World} {X g1 g2 root:Nat} {y:BS} {ks vs:List UInt64} {m:Nat} (hx:RowV wx X 107 [.bool false,.slice (some ⟨g1,0,none⟩) m m,.slice (some ⟨g2,0,none⟩) m m]) (h1:RowN wx g1 30 ks) (h2:RowN wx g2 30 vs) (hk:ks.length=m) (hv:vs.length=m) (h7:m≤7) (hs:Spoilt y root ks vs):Spt wx X y root :=
 ⟨_,m,m,_,m,m,ks,vs,hx,⟨hk,hv,Nat.le_refl _,by unfold maxLen; omega,Nat.le_refl _,by unfold maxLen; omega,h1.has.told,h2.has.told⟩,hs⟩
set_option maxHeartbeats 4000000 in
theorem fwrong_walk (A:Option Addr) (n c:Nat) (l:List Itm) (hn an:Int) (w:World) (h:IRow w A n c l) (hsz:n≤8796093022000) (hhn:(Lit.int .u8 hn).wf=true) (han:(Lit.int .u8 an).wf=true) :
  Calls Tryz.prog 9 #[.slice A n c,.int .u8 hn,.int .u8 an] w fun e w'=>e = .returned (.bool true)∧Below w.heap.size w w':=by
 have u8b : ∀ {z:Int},(Lit.int .u8 z).wf=true → ∃m:Nat,z=(m:Int)∧m≤255:=fun {z} hz=>by
  have h2:IntKind.u8.min≤z∧z≤IntKind.u8.max:=by simpa [Lit.wf] using hz
  have h0:IntKind.u8.min=0:=rfl
  have h1:IntKind.u8.max=255:=rfl
  rw [h0,h1] at h2
  exact ⟨z.toNat,by omega,by omega⟩
 obtain ⟨hw,rfl,hwb⟩:=u8b hhn
 obtain ⟨aw,rfl,hab⟩:=u8b han
 have H:=hid h
 have hnc:=h.kc
 have hcm':n≤maxLen:=Nat.le_trans hnc h.km
 clear u8b h hhn han
 go_enter Tryz.func9,Tryz.ntmps9
 go_wp2_with fail
 refine (rising_any H.out hsz (risingF l) rfl).mono ?_
 rintro e w1 ⟨v,rfl,ho,k1⟩
 obtain ⟨G,cap,rfl,hg,_⟩:=ho.slice
 have HRI:=hid (risingF_ris l)
 have HLL:=hid (risingF_len l)
 obtain ⟨N,hN⟩ : ∃N,N=(risingF l).length:=⟨_,rfl⟩
 rw [← hN] at hg ⊢
 have HAL:=hid hN.symm
 have HG1:=hid hg
 have HL1:=hid (H.out.below k1)
 have hNc:=hg.kc
 have hcm2:=hg.km
 unfold maxLen at hcm2
 have K1:=hid k1
 clear hg ho k1 hN
 by_cases hbig:200<n
 ·go_wp2_with fail
  refine (made_big hbig hcm').mono ?_
  rintro e w2 ⟨rfl,k2⟩
  go_wp2_with fail
  refine (awake13b w2).mono ?_
  rintro e w3 ⟨rfl,kz⟩
  go_wp2_with fail
  go_ret
  exact ⟨rfl,K1.out.trans ((k2.trans (kz.mono k2.size)).mono K1.out.size)⟩
 ·go_wp2_with fail
  refine (made_yes HL1.out (by omega)).mono ?_
  rintro e w2 ⟨B,root,y,rfl,Y⟩
  have HWD:=hid Y.wood
  have HAT2:=hid Y.at_
  have HUP:=hid Y.up
  have K2:=hid (K1.out.trans (Y.low.mono K1.out.size))
  have HG2:=hid (HG1.out.below Y.low)
  have L2:=hid Y.low
  clear Y
  generalize risingF l=al at *
  by_cases h8:N<8
  ·have h8i:decide ((N:Int)<8)=true:=decide_eq_true (by omega)
   go_wp2_with fail
   refine (awake13b w2).mono ?_
   rintro e w3 ⟨rfl,kz⟩
   go_wp2_with fail
   go_ret
   exact ⟨rfl,K2.out.trans (kz.mono K2.out.size)⟩
  ·by_cases h49:49<N
   ·have h8i:decide ((N:Int)<8)=false:=decide_eq_false (by omega)
    have h49i:decide ((49:Int)<(N:Int))=true:=decide_eq_true (by omega)
    go_wp2_with fail
    refine (awake13b w2).mono ?_
    rintro e w3 ⟨rfl,kz⟩
    go_wp2_with fail
    go_ret
    exact ⟨rfl,K2.out.trans (kz.mono K2.out.size)⟩
   ·have h8i:decide ((N:Int)<8)=false:=decide_eq_false (by omega)
    have h49i:decide ((49:Int)<(N:Int))=false:=decide_eq_false (by omega)
    obtain ⟨ks,vs,segs,T,HH⟩:=twig_of HWD.out HRI.out (by rw [HAL.out]; omega) (by rw [HAL.out]; omega)
    have HT:=hid T
    have HHD:=hid HH
    have HLO:=hid T.lo
    have h2k:=T.two
    have h7k:ks.length≤7:=T.fit.1
    have HVL:=hid T.fit.2.1
    clear T HH
    go_wp2_with fail
    refine (fnode_rows HWD.out.1 HAT2.out root HLO.out.1 HLO.out.2 false ks vs HT.out.node).mono ?_
    rintro e w3 ⟨g1,g2,rfl,R1,R2,lo1,lo2,ne,k3⟩
    obtain ⟨m,hm⟩ : ∃m,m=ks.length:=⟨_,rfl⟩
    rw [← hm] at h2k h7k ⊢
    have HM:=hid hm
    have HR1:=hid R1
    have HR2:=hid R2
    have HNE:=hid ne
    have HLO1:=hid lo1
    have HLO2:=hid lo2
    have K3:=hid k3
    clear R1 R2 lo1 lo2 ne k3 hm
    go_upto_region 6 with (fail)
    have r4:=alloc_rowV w3 107 [.bool false,.slice (some ⟨g1,0,none⟩) m m,.slice (some ⟨g2,0,none⟩) m m]
    have b4:=(Below.refl w3.heap.size w3).alloc (Nat.le_refl _) (.cells #[.bool false,.slice (some ⟨g1,0,none⟩) m m,.slice (some ⟨g2,0,none⟩) m m] 107)
    have HX4:=hid r4
    have L4:=hid (K3.out.trans (b4.mono K3.out.size))
    have HR14:=hid (show RowN (w3.alloc (.cells #[.bool false,.slice (some ⟨g1,0,none⟩) m m,.slice (some ⟨g2,0,none⟩) m m] 107)) g1 30 ks from (b4.block g1 HR1.out.lt).trans HR1.out)
    have HR24:=hid (show RowN (w3.alloc (.cells #[.bool false,.slice (some ⟨g1,0,none⟩) m m,.slice (some ⟨g2,0,none⟩) m m] 107)) g2 30 vs from (b4.block g2 HR2.out.lt).trans HR2.out)
    have HXG:=hid (show g1<w3.heap.size∧g2<w3.heap.size∧w2.heap.size≤w3.heap.size from ⟨HR1.out.lt,HR2.out.lt,K3.out.size⟩)
    obtain ⟨X,hX⟩ : ∃X,X=w3.heap.size:=⟨_,rfl⟩
    rw [← hX] at HX4 HXG ⊢
    clear r4 b4 hX
    generalize w3.alloc (.cells #[.bool false,.slice (some ⟨g1,0,none⟩) m m,.slice (some ⟨g2,0,none⟩) m m] 107)=w4 at *
    have d0:=HX4.out.cellAt (i:=0) rfl
    have d1:=HX4.out.cellAt (i:=1) rfl
    have d2:=HX4.out.cellAt (i:=2) rfl
    have hm2:decide ((m:Int)<2)=false:=decide_eq_false (by omega)
    go_wp2_with fail
    refine (wood_right HWD.out HRI.out (by rw [HAL.out]; omega) (HAT2.out.below L4.out)).mono ?_
    rintro e w5 ⟨rfl,k5⟩
    have HX5:=hid (HX4.out.below HX4.out.lt k5)
    have L5:=hid (L4.out.trans (k5.mono L4.out.size))
    have HR15:=hid (show RowN w5 g1 30 ks from (k5.block g1 HR14.out.lt).trans HR14.out)
    have HR25:=hid (show RowN w5 g2 30 vs from (k5.block g2 HR24.out.lt).trans HR24.out)
    clear k5 d0 d1 d2 HX4 HR14 HR24 HR1 HR2 L4
    have d0:=HX5.out.cellAt (i:=0) rfl
    have d1:=HX5.out.cellAt (i:=1) rfl
    have d2:=HX5.out.cellAt (i:=2) rfl
    have hmod:(aw:Int) % ((m:Int)-1)=((aw % (m-1):Nat):Int):=by
     rw [show (m:Int)-1=((m-1:Nat):Int) by omega]
     exact (Int.natCast_emod _ _).symm
    have hml:=Nat.mod_lt aw (show m-1>0 by omega)
    generalize aw % (m-1)=j at hmod hml
    obtain ⟨i,hi⟩ : ∃i,i=j+1:=⟨_,rfl⟩
    have hij:1+(j:Int)=(i:Int):=by omega
    have hi1:1≤i∧i<m:=by omega
    obtain ⟨r,hr⟩ : ∃r,r=hw % 5:=⟨_,rfl⟩
    have hr5:r<5:=by omega
    have hri:(hw:Int) % 5=(r:Int):=by omega
    have him:(i:Int)<(m:Int):=by omega
    have hi0 : ¬((i:Int)<0):=by omega
    have hvl:i<vs.length:=by have h1:=HVL.out; have h2:=HM.out; omega
    have HIV:=hid hvl
    have vc0:=HR25.out.cellAt (i:=0) (get_some (by omega))
    have vci:=HR25.out.cellAt (i:=i) (get_some hvl)
    obtain ⟨a0,ha0⟩ : ∃a,a=vs.getD 0 0:=⟨_,rfl⟩
    obtain ⟨ai,hai⟩ : ∃a,a=vs.getD i 0:=⟨_,rfl⟩
    rw [← ha0] at vc0
    rw [← hai] at vci
    have HA0:=hid ha0
    have HAI:=hid hai
    clear ha0 hai
    have fv0:=HR25.out.free 0
    have fvi:=HR25.out.free i
    have fx1:=HX5.out.free 1
    have fx2:=HX5.out.free 2
    clear hi hr hvl
    have HAT5:=hid (HAT2.out.below L5.out)
    have hxg : ¬X=g2:=by have:=HXG.out; omega
    have hgx : ¬g2=X:=by have:=HXG.out; omega
    have hi00 : ¬i=0:=by omega
    have hi01 : ¬0=i:=by omega
    have hnt:nth y.now 1≤4096:=by have:=HWD.out.1.blk; omega
    go_upto_block 0 with (fail)
    go_cut [72] (fun s72 wx=>Hid (Spt wx X y root)∧Hid (Below w2.heap.size w2 wx))
    case first =>
     rcases (show r=0∨r=1∨r=2∨r=3∨r=4 by omega) with rfl | rfl | rfl | rfl | rfl
     ·go_wp2_with fail
      go_region
      all_goals (go_wp2_with fail)
      all_goals go_meet
      have T:=HT.out
      have hmk:=HM.out
      have hvv:=HVL.out
      have hgm:g1≠g2:=HNE.out
      have hxx:=HXG.out
      have h1:=HLO2.out
      have sp:=T.swap (i:=i) hi1.1 (by rw [← hmk]; exact hi1.2)
      rw [← HA0.out,← HAI.out] at sp
      have hst : ∀u:World,Still u u.drew:=fun _=>⟨rfl,rfl,rfl,rfl⟩
      exact ⟨hid (spt_of (((HX5.out.other hxg).other hxg).still (hst _)) (((HR15.out.other hgm).other hgm).still (hst _)) (((HR25.out.set i a0).set 0 ai).still (hst _)) hmk.symm (by rw [List.length_set,List.length_set,hvv,hmk]) h7k sp),hid (((L5.out.setCell (p:=⟨g2,i,none⟩) h1 _).setCell (p:=⟨g2,0,none⟩) h1 _).trans ((hst _).below _))⟩
     ·go_wp2_with fail
      go_meet
      have hlo:=HLO.out
      have hrt:(UInt64.ofNat root).toNat=root:=b64 (by omega)
      rw [show IntKind.u64.wrap (root:Int)=((UInt64.ofNat root).toNat:Int) by rw [hrt,IntKind.wrap_u64]; omega]
      have T:=HT.out
      have hmk:=HM.out
      have hvv:=HVL.out
      have hgm:g1≠g2:=HNE.out
      have h1:=HLO2.out
      have sp:=T.bad (i:=i) hi1.1 (by rw [← hmk]; exact hi1.2) (c:=UInt64.ofNat root) (.inl hrt)
      exact ⟨hid (spt_of (HX5.out.other hxg) (HR15.out.other hgm) (HR25.out.set i (UInt64.ofNat root)) hmk.symm (by rw [List.length_set,hvv,hmk]) h7k sp),hid (L5.out.setCell (p:=⟨g2,i,none⟩) h1 _)⟩
     ·go_wp2_with fail
      go_meet
      have T:=HT.out
      have hmk:=HM.out
      have hvv:=HVL.out
      have hgm:g1≠g2:=HNE.out
      have h1:=HLO2.out
      have sp:=T.bad (i:=i) hi1.1 (by rw [← hmk]; exact hi1.2) (c:=1) (.inr (.inl rfl))
      exact ⟨hid (spt_of (HX5.out.other hxg) (HR15.out.other hgm) (HR25.out.set i 1) hmk.symm (by rw [List.length_set,hvv,hmk]) h7k sp),hid (L5.out.setCell (p:=⟨g2,i,none⟩) h1 _)⟩
     ·go_wp2_with fail
      have HBK:=hid (show ∀wq,Still w5 wq→Calls Tryz.prog 27 #[.pointer (some ⟨B.b,0,none⟩)] wq fun e w'=>e = .returned (.int .i64 200)∧w'=wq from fun wq hq=>(blocks_at (HAT5.out.still hq) hnt).mono fun e w' ⟨h1,h2⟩=>⟨by rw [h1,HWD.out.1.blk]; rfl,h2.symm⟩)
      go_region_with (go_at_call 27; refine (HBK.out w5.drew ⟨rfl,rfl,rfl,rfl⟩).mono ?_; rintro e wq ⟨rfl,rfl⟩)
      all_goals (go_wp2_with fail)
      all_goals go_meet
      all_goals
       have T:=HT.out
       have hmk:=HM.out
       have hvv:=HVL.out
       have hgm:g1≠g2:=HNE.out
       have h1:=HLO2.out
       have sp:=T.bad (i:=i) hi1.1 (by rw [← hmk]; exact hi1.2) (c:=200) (.inr (.inr rfl))
       have hst : ∀u:World,Still u u.drew:=fun _=>⟨rfl,rfl,rfl,rfl⟩
       rw [show IntKind.u64.wrap 200=((200:UInt64).toNat:Int) from rfl]
       exact ⟨hid (spt_of ((HX5.out.other hxg).still (hst _)) ((HR15.out.other hgm).still (hst _)) ((HR25.out.set i 200).still (hst _)) hmk.symm (by rw [List.length_set,hvv,hmk]) h7k sp),hid ((L5.out.setCell (p:=⟨g2,i,none⟩) h1 _).trans ((hst _).below _))⟩
     ·go_wp2_with fail
      go_region
      all_goals (go_wp2_with fail)
      all_goals go_meet
      have T:=HT.out
      have hmk:=HM.out
      have hvv:=HVL.out
      have hxx:=HXG.out
      have hst : ∀u:World,Still u u.drew:=fun _=>⟨rfl,rfl,rfl,rfl⟩
      have hx1:g1≠X:=by omega
      have hx2:g2≠X:=by omega
      have mx:m≤maxLen:=by unfold maxLen; omega
      exact ⟨hid ⟨_,1,m,_,1,m,ks.take 1,vs.take 1,((HX5.out.set 1 _).set 2 _).still (hst _),⟨by rw [List.length_take]; omega,by rw [List.length_take]; omega,by omega,mx,by omega,mx,toldn_cut ((((HR15.out.other hx1).other hx1).still (hst _)).has.told) 1,toldn_cut ((((HR25.out.other hx2).other hx2).still (hst _)).has.told) 1⟩,T.cut⟩,hid (((L5.out.setCell (p:=⟨X,1,none⟩) hxx.2.2 _).setCell (p:=⟨X,2,none⟩) hxx.2.2 _).trans ((hst _).below _))⟩
    case rest =>
     obtain ⟨HS,L6⟩:=hcut
     obtain ⟨K,q1,p1,V,q2,p2,zs,us,hxr,hnd,hsp⟩:=HS.out
     obtain ⟨w6,hw6⟩ : ∃q,q=wc:=⟨_,rfl⟩
     subst hw6
     have e0:=hxr.cellAt (i:=0) rfl
     have e1:=hxr.cellAt (i:=1) rfl
     have e2:=hxr.cellAt (i:=2) rfl
     have HND:=hid hnd
     have HSP:=hid hsp
     have HAT6:=hid (HAT2.out.below L6.out)
     clear hxr hnd hsp HS d0 d1 d2 vc0 vci fv0 fvi fx1 fx2 HX5 HR15 HR25 HAT5 L5
     go_wp2_with fail
     refine (Lf.encode_yes false HND.out HSP.out.1).mono ?_
     rintro e w7 ⟨gp,rfl,F⟩
     have L7:=hid (L6.out.trans (F.below.mono L6.out.size))
     have HG:=hid (show ∀w',ButL w7 w' []→Oct.Told w' (some ⟨gp,0,none⟩) (nodePage false zs us) from fun w' k=>by
      have hb:w'.heap[gp]?=w7.heap[gp]?:=k.block gp F.hi (by simp)
      exact (show Has w' gp 0 (nodePage false zs us) from fun i hi=>(World.cell?_of_block (a:=⟨gp,0+i,none⟩) hb).trans (F.has i hi)).told)
     have HAT7:=hid (HAT6.out.below F.below)
     clear F e0 e1 e2
     go_wp2_with fail
     refine (over_at HAT7.out hnt root (by have:=HLO.out; have:=HWD.out.1.blk; omega) (by obtain ⟨b,hb1,hb2⟩:=HHD.out; have hb3:root=b:=(by omega); rw [hb3]; exact hb2) (Lf.length_nodePage _ _ _ HSP.out.1.2.1 HSP.out.1.1) HG.out).mono ?_
     rintro e w8 ⟨rfl,hat8,hb8⟩
     have HF8:=hid (HWD.out.1.over (b:=root) (by obtain ⟨b,hb1,hb2⟩:=HHD.out; have hb3:root=b:=(by omega); rw [hb3]; exact hb2) (bs:=nodePage false zs us) (Lf.length_nodePage _ _ _ HSP.out.1.2.1 HSP.out.1.1))
     have HAT8:=hid hat8
     have HWR:=hid HSP.out.2.symm
     have J8:=hid (lowb HUP.out (L2.out.trans (L7.out.mono L2.out.size)) hb8 (Nat.le_refl _))
     have HN8:=hid (show IRow w8 G N cap al from HG1.out.below J8.out)
     clear hat8 hb8 HAT7 HG
     generalize y.over root (nodePage false zs us)=y8 at *
     have hrb : -9223372036854775808≤(root:Int)∧(root:Int)≤9223372036854775807:=by have:=HLO.out; omega
     go_wp2_with fail
     refine (fright_is HF8.out HAT8.out root hrb false HWR.out).mono ?_
     rintro e w9 ⟨rfl,k9⟩
     have HAT9:=hid (HAT8.out.below k9)
     have HN9:=hid (HN8.out.below k9)
     have J9:=hid (J8.out.trans (k9.mono J8.out.size))
     clear k9
     go_wp2_with fail
     go_loopw [143] (fun i wr => ∃k:Nat,k≤N∧i = .int .i64 (k:Int)∧Hid (Below w9.heap.size w9 wr)) (fun i _=>N-(Go.RowKit.intOf i).toNat)
     case atStart=>exact ⟨0,Nat.zero_le _,rfl,hid (Below.refl _ _)⟩
     case round =>
      obtain ⟨k,hk,rfl,HBr⟩:=hrel
      obtain ⟨wz,hwz⟩ : ∃q,q=wr:=⟨_,rfl⟩
      subst hwz
      have HATz:=hid (HAT9.out.below HBr.out)
      have JZ:=hid (J9.out.trans (HBr.out.mono J9.out.size))
      by_cases hlt:k<N
      ·have HGr:=hid (HN9.out.below HBr.out)
       have hkl:k<al.length:=by rw [HAL.out]; exact hlt
       obtain ⟨gb,go,rfl,hcc⟩:=HGr.out.at hlt
       have cl0:=(hcc k hkl).1
       have cl1:=(hcc k hkl).2
       rw [show go+2*k=go+k*2 by omega] at cl0 cl1
       clear hcc
       generalize al[k]=p at cl0 cl1
       have hki:(k:Int)<(N:Int):=by omega
       have b2:=(Below.refl wz.heap.size wz).alloc (Nat.le_refl _) (.cells #[.int .u64 (p.1.toNat:Int),.int .u64 (p.2.toNat:Int)] 104)
       have r2:=alloc_rowV wz 104 [.int .u64 (p.1.toNat:Int),.int .u64 (p.2.toNat:Int)]
       have x0:=r2.cellAt (i:=0) rfl
       have B2:=hid b2
       clear b2 r2
       go_upto_region 25 with (fail)
       clear cl0 cl1
       generalize wz.alloc (.cells #[.int .u64 (p.1.toNat:Int),.int .u64 (p.2.toNat:Int)] 104)=w2' at *
       go_wp2_with fail
       refine (get_of root p.1 _ (down_any HF8.out (HATz.out.below B2.out) root p.1 hrb _ rfl) _ rfl).mono ?_
       rintro e wa ⟨rfl,ka⟩
       have HBa:=hid (HBr.out.trans ((B2.out.trans (ka.mono B2.out.size)).mono HBr.out.size))
       clear ka
       go_wp2_with fail
       go_roundw
       case rel=>exact ⟨k+1,by omega,by go_num,HBa⟩
       case measure=>simp [Go.RowKit.intOf]; omega
      ·have hki : ¬(k:Int)<(N:Int):=by omega
       go_wp2_with fail
       refine (walk_base HF8.out HATz.out root hrb 0 maxU 100 _ rfl (.inl (by omega)) _ rfl).mono ?_
       rintro e wa ⟨va,rfl,_,ka⟩
       have JA:=hid (JZ.out.trans (ka.mono JZ.out.size))
       have HATa:=hid (HATz.out.below ka)
       clear ka
       go_wp2_with fail
       refine (height_of root _ (down_any HF8.out HATa.out root 0 hrb _ rfl)).mono ?_
       rintro e wb ⟨rfl,kb⟩
       have JB:=hid (JA.out.trans (kb.mono JA.out.size))
       clear kb
       go_wp2_with fail
       refine (awake13b _).mono ?_
       rintro e wg ⟨rfl,kg⟩
       go_wp2_with fail
       go_ret
       exact ⟨rfl,K1.out.trans ((JB.out.trans (kg.mono JB.out.size)).mono K1.out.size)⟩
end Go.Proofs.YtogchamogbendaaGreat.Bs
namespace Go.Proofs.YtogchamogbendaaGreat.Bs
open Go.RowKit Oct Mv Tl Go.Maps Go.ChangeMaps Go.ChangeShapes Go.WideShapes Go.ChangeAt
theorem item_bytes:Tryz.prog.bytesOf 104 = 16:=by kernel_rfl
section
variable {H:Type} {enc:TypeId×Value→H} {W:World}
theorem came_many {d:DataW H} {p:List MemPlace} (A:Option Addr) (len cap:Nat) (h:DataW.Trod enc Tryz.prog W 0 (fun _=>true) true 83 (.slice A len cap) d p):len=0 ∨ ∃el sp,d = .slice el sp∧el.length=len:=by
 obtain ⟨fuel,hf⟩:=h
 rcases Go.Deep.open_slice Tryz.underlying83 hf with ⟨hcs,_⟩ | ⟨a,len',cap',m,n,D,Pl,hcs,hb,hl,hm,hmm,hx,hi⟩
 ·simp [Value.cells] at hcs
  exact .inl hcs.2.1
 ·simp [Value.cells] at hcs
  obtain ⟨rfl,rfl,rfl⟩:=hcs
  exact .inr ⟨_,_,(Prod.mk.inj hx).1,by simp⟩
theorem few_items {len:Nat} {el sp:List (DataW H)} (h:(el.length+sp.length)*Tryz.prog.bytesOf 104 ≤ reachBytes) (hl:el.length=len):len≤8796093022000:=by
 rw [item_bytes] at h
 have:reachBytes≤140737488351232:=by decide
 omega
end
end Go.Proofs.YtogchamogbendaaGreat.Bs
