import Derived.Deep.DeepCutAuto
import Derived.BigQuiet
import Derived.Lib.MinMax
import Derived.Test.YtogchamogbendaaGreatQtD
import Derived.Test.YtogchamogbendaaGreatQtA
import Derived.Test.YtogchamogbendaaGreatQtC
import Derived.Test.YtogchamogbendaaGreatQtu
set_option maxRecDepth 100000
set_option linter.unusedVariables false
set_option linter.unusedSimpArgs false
namespace Go.Proofs.YtogchamogbendaaGreat.Bs
open Lib (hid)
open Go.RowKit Oct Mv Tl Pk Pl Go.Maps Go.ChangeMaps
open Lf (Nd Fit nodePage RowN ToldN OwnN Rises step_app_num)
open No (atR at_any)
def lenV:Value→Nat
 | .slice _ n _=>n
 | _=>0
section
variable {Pr:Nat→Prop} {A:Adr} {x:BS} {w:World}
theorem BAt.grew {w':World} (h:BAt Pr w A x) {base:Nat} {v:Value} {es:List Itm} (ho:OwnJ w base v es) (hg:w.grownBy w' v.ownBlock):BAt Pr w' A x:=by
 rcases ho.2 with ⟨rfl,_⟩ | ⟨g,cap,cur,rfl,_,hgg,_⟩
 ·exact h.below ⟨hg.os,hg.tape,hg.output,hg.size,fun k hk=>hg.block k hk (fun e=>by cases e)⟩
 ·exact h.apart (X:=g) (T := 104) (vs:=cur.toList) hgg ⟨hg.os,hg.tape,hg.output,hg.size,fun k hk hn=>hg.block k hk (fun e=>hn (by rw [List.mem_singleton]; exact Option.some.inj e))⟩ (by decide)
def Built (Pr:Nat→Prop) (A:Adr) (x:BS) (n:Nat) (l:List Itm) (N:Nat) (w:World) (b:Nat) (w':World):Prop :=
 ∃(y:BS) (lv:Nat),Fed n y∧Held y (b:Int)∧Tr (nodeR y n) (Held y) (min (lv+1) 2) lv (b:Int) l∧lv+1=upH N∧(N≤7→x.q.Found b∧y=x.put b (nodePage true (l.map Prod.fst) (l.map Prod.snd)))∧BAt Pr w' A y∧ButL w w' A.list
set_option maxHeartbeats 4000000 in
theorem build_any {n:Nat} (hf:Fed n x) (h:BAt Pr w A x) (l:List Itm) {LA:Option Addr} {N c:Nat} (hrow:IRow w LA N c l) (hN:1≤N∧N≤200) (hr:need x.n+tot N≤x.q.room) (hris:Ris l) (hsep : ∀b o,LA=some ⟨b,o,none⟩→b∉A.list) :
  Calls Tryz.prog 51 #[.pointer (some ⟨A.b,0,none⟩),.slice LA N c] w fun e w' => ∃b:Nat,e = .returned (.tuple #[.int .i64 (b:Int),.bool true])∧Built Pr A x n l N w b w':=by
 have HF:=hid hf
 have H:=hid h
 have HRIS:=hid hris
 have hel:=hrow.el
 have HST:=hid (mid_start hf (l:=l) (by omega) (by rw [hel]; exact hr))
 have HROW0:=hid hrow
 have HSEP0:=hid hsep
 have HAL:=hid h.list_lt
 have hN0 : ¬((N:Int)=0):=by omega
 have HEL:=hid hel
 clear hf h hr hrow hris hsep hel
 go_enter Tryz.func51,Tryz.ntmps51
 go_wp2_with fail
 rw [show ((N:Int)==0)=false from beq_eq_false_iff_ne.mpr (by omega)]
 go_loopw [1,6] (fun a lv wr => ∃(lv':Nat) (ups:List Itm) (segs:List (List Itm)) (y:BS) (LA':Option Addr) (N' c':Nat),lv = .int .i64 (lv':Int)∧a = .slice LA' N' c'∧Hid (IRow wr LA' N' c' ups)∧Hid (∀b o,LA'=some ⟨b,o,none⟩→b∉A.list)∧Hid (Mid x n lv' ups segs l 0 y [])∧Hid (lv'+upH N'=upH N)∧1≤N'∧N'≤200∧lv'≤200∧Hid (BAt Pr wr A y)∧Hid (ButL w wr A.list)) (fun a _ _=>lenV a)
 case atStart=>exact ⟨0,l,_,x,LA,N,c,rfl,rfl,HROW0,HSEP0,HST,hid (by omega),by omega,by omega,by omega,H,hid (ButL.refl _ _)⟩
 case round =>
  obtain ⟨lv,ups,segs,y0,LB,N1,c1,rfl,rfl,HROW,HSEP,HM0,HUP,hn1,hn2,hlv,HAT0,HBT0⟩:=hrel
  obtain ⟨wL,hwL⟩ : ∃q,q=wr:=⟨_,rfl⟩
  subst hwL
  obtain ⟨M,hM⟩ : ∃M,M=manyN N1:=⟨_,rfl⟩
  have hm:1≤M∧M≤29:=by rw [hM]; unfold manyN; omega
  have hdiv:((N1:Int)+7-1)/7=(M:Int):=by rw [hM]; unfold manyN; omega
  have HMM:=hid hM
  have hsL:=HBT0.out.size
  clear hM
  go_wp2_with fail
  rw [hdiv]
  go_loopw [8,26] (fun up i wz => ∃(i':Nat) (ups2:List Itm) (y:BS),i = .int .i64 (i':Int)∧i'≤M∧Hid (Mid x n lv ups segs l i' y ups2)∧Hid (OwnJ wz wL.heap.size up ups2)∧Hid (BAt Pr wz A y)∧Hid (ButL wL wz A.list)) (fun _ i _=>M-(Go.RowKit.intOf i).toNat)
  case atStart=>exact ⟨0,[],y0,rfl,Nat.zero_le _,HM0,hid (OwnJ.nil _ _),HAT0,hid (ButL.refl _ _)⟩
  case round =>
   obtain ⟨i,ups2,y,rfl,hi,HM,HO,HAT,HBT⟩:=hrel
   obtain ⟨wz,hwz⟩ : ∃q,q=wr:=⟨_,rfl⟩
   subst hwz
   by_cases hlt:i<M
   ·have hul:ups.length=N1:=HROW.out.el
    have hilt:i<manyN ups.length:=by rw [hul,← HMM.out]; exact hlt
    have hcs:=cut_step (n:=N1) (i:=i) hn1
    have hce:=cut_le (n:=N1) (i:=i+1) hn1 (by rw [← HMM.out]; omega)
    obtain ⟨ca,ha⟩ : ∃ca,ca=cutN N1 i:=⟨_,rfl⟩
    obtain ⟨ck,hK⟩ : ∃ck,ck=cutN N1 (i+1)-ca:=⟨_,rfl⟩
    have hq1:(i:Int)*(N1:Int)/(M:Int)=(ca:Int):=by rw [ha,HMM.out]; unfold cutN; norm_cast
    have hq2:((i:Int)+1)*(N1:Int)/(M:Int)=((ca+ck:Nat):Int):=by
     rw [show ca+ck=cutN N1 (i+1) by omega,HMM.out]
     unfold cutN
     norm_cast
    rw [← ha] at hcs
    have hKb:1≤ck∧ck≤7∧ca+ck≤N1:=by omega
    have HKA:=hid (show ca=cutN ups.length i∧ck=cutN ups.length (i+1)-cutN ups.length i by rw [hul,← ha]; exact ⟨rfl,hK⟩)
    have HFT:=hid (HM.out.fit HRIS.out hilt)
    rw [← HKA.out.2,← HKA.out.1] at HFT
    obtain ⟨bl,hbl⟩ : ∃b,b=decide (lv=0):=⟨_,rfl⟩
    have hb0:((lv:Int)==0)=bl:=by
     rw [hbl]
     by_cases e:lv=0
     ·rw [e]; rfl
     ·rw [decide_eq_false e]; exact beq_eq_false_iff_ne.mpr (by omega)
    rw [← hbl] at HFT
    have HBL:=hid hbl
    obtain ⟨bL,oL,rfl,hL⟩ : ∃b o,LB=some ⟨b,o,none⟩∧HasV wL b o (ivs ups):=by
     rcases HROW.out.es with q | q
     ·have:=ivs_nil_iff.1 q
      rw [this] at hul
      simp at hul
      omega
     ·exact q
    have hbLL:bL<wL.heap.size:=World.block_lt_of_cell? wL _ (hL 0 (by rw [length_ivs,hul]; omega))
    have HL:=hid (hL.block (HBT.out.block bL hbLL (HSEP.out bL oL rfl)))
    have hblz:bL<wz.heap.size:=Nat.lt_of_lt_of_le hbLL HBT.out.size
    have hkc:N1≤c1:=HROW.out.kc
    have hkm:c1≤maxLen:=HROW.out.km
    unfold maxLen at hkm
    have HUL:=hid hul
    have HILT:=hid hilt
    clear hL hbl ha hK hul hilt hcs hce
    have hmul:i*N1≤29*200:=Nat.mul_le_mul (by omega) hn2
    have hmul2:(i+1)*N1≤29*200:=Nat.mul_le_mul (by omega) hn2
    have hw1:IntKind.i64.wrap ((i:Int)*(N1:Int))=(i:Int)*(N1:Int):=wrap_i64 (by omega) (by omega)
    have hp2:((i:Int)+1)*(N1:Int)=(((i+1)*N1:Nat):Int):=by rw [Int.natCast_mul]; rfl
    have hw2:IntKind.i64.wrap (((i:Int)+1)*(N1:Int))=((i:Int)+1)*(N1:Int):=by rw [hp2]; exact wrap_i64 (by omega) (by omega)
    clear hp2
    have ht1:Int.tdiv ((i:Int)*(N1:Int)) (M:Int)=(ca:Int):=by rw [Int.tdiv_eq_ediv_of_nonneg (by omega)]; exact hq1
    have ht2:Int.tdiv (((i:Int)+1)*(N1:Int)) (M:Int)=((ca+ck:Nat):Int):=by rw [Int.tdiv_eq_ediv_of_nonneg (by rw [show ((i:Int)+1)*(N1:Int)=(((i+1)*N1:Nat):Int) by rw [Int.natCast_mul]; rfl]; omega)]; exact hq2
    have hmf:((M:Int)==0)=false:=beq_eq_false_iff_ne.mpr (by omega)
    have hin:(i:Int)<(M:Int):=by omega
    have hm0 : ¬((M:Int)=0):=by omega
    go_upto_region 11 with (fail)
    go_quiet (fail)
    rw [show ca+ck-ca=ck by omega]
    clear hq1 hq2 ht1 ht2 hmul hmul2 hw1 hw2 hmf hm0 hb0
    obtain ⟨pc,hpc⟩ : ∃p,p=(ups.drop ca).take ck:=⟨_,rfl⟩
    have hpl:pc.length=ck:=by rw [hpc,List.length_take,List.length_drop,HUL.out]; omega
    have hpg : ∀(j:Nat) (g:j<pc.length),∃g2:ca+j<ups.length,pc[j]=ups[ca+j]:=fun j g=>by
     have g2:ca+j<ups.length:=by rw [HUL.out]; omega
     refine ⟨g2,?_⟩
     subst hpc
     rw [List.getElem_take,List.getElem_drop]
    rw [← hpc] at HFT
    have HPC:=hid hpc
    have HPL:=hid hpl
    have HPG:=hid hpg
    clear hpc hpl hpg
    have b0:=(Below.refl wz.heap.size wz).alloc (Nat.le_refl _) (.cells #[.bool bl,.slice none 0 0,.slice none 0 0] 107)
    have r0:=alloc_rowV wz 107 [.bool bl,.slice none 0 0,.slice none 0 0]
    have s0:(wz.alloc (.cells #[.bool bl,.slice none 0 0,.slice none 0 0] 107)).heap.size=wz.heap.size+1:=World.size_alloc ..
    have st:=Still.drewN (wz.alloc (.cells #[.bool bl,.slice none 0 0,.slice none 0 0] 107)) nq
    obtain ⟨X10,hX10⟩ : ∃X,X=wz.heap.size:=⟨_,rfl⟩
    have R10:=hid (r0.still st)
    have HB1:=hid (b0.trans (st.below wz.heap.size))
    have S1:=hid (show ((wz.alloc (.cells #[.bool bl,.slice none 0 0,.slice none 0 0] 107)).drewN nq).heap.size=X10+1 by rw [hX10,← s0]; exact congrArg Array.size st.heap)
    rw [← hX10] at R10 hblz ⊢
    have HX10:=hid hX10
    have HL1:=hid (HL.out.below (by rw [← hX10]; exact hblz) HB1.out)
    clear b0 r0 s0 st hX10
    generalize (wz.alloc (.cells #[.bool bl,.slice none 0 0,.slice none 0 0] 107)).drewN nq=w1 at *
    go_wp2_with fail
    go_loopw [48] (fun j wy => ∃(k:Nat) (X Y:Value),j = .int .i64 (k:Int)∧k≤ck∧Hid (Grow w1 (X10+1) X10 bl X Y ((pc.take k).map Prod.fst) ((pc.take k).map Prod.snd) wy)) (fun j _=>ck-(Go.RowKit.intOf j).toNat)
    case atStart=>exact ⟨0,_,_,rfl,Nat.zero_le _,hid ⟨⟨ownN_nil w1 _,ownN_nil w1 _,fun k e=>(by cases e),Below.refl _ _,by rw [S1.out]; exact Nat.le_refl _,by omega⟩,R10.out,by omega⟩⟩
    case round =>
     obtain ⟨k,X,Y,rfl,hk,HG⟩:=hrel
     by_cases hkn:k<ck
     ·have hkl:k<pc.length:=by rw [HPL.out]; exact hkn
      obtain ⟨hau,hpe⟩:=HPG.out k hkl
      obtain ⟨wv,hwv⟩ : ∃q,q=wr:=⟨_,rfl⟩
      subst hwv
      obtain ⟨kx,hkx⟩ : ∃y,y=pc[k].1:=⟨_,rfl⟩
      obtain ⟨vx,hvx⟩ : ∃y,y=pc[k].2:=⟨_,rfl⟩
      have HLv:=hid (HL1.out.below hblz HG.out.two.bw)
      have cl0:=HLv.out.cellAt (ivs_key ups (ca+k) hau)
      have cl1:=HLv.out.cellAt (ivs_val ups (ca+k) hau)
      rw [← hpe,← hkx] at cl0
      rw [← hpe,← hvx] at cl1
      rw [show oL+2*(ca+k)=oL+ca*2+k*2 by omega] at cl0
      rw [show oL+(2*(ca+k)+1)=oL+ca*2+k*2+1 by omega] at cl1
      have HTK:=hid (show (pc.take (k+1)).map Prod.fst=(pc.take k).map Prod.fst ++ [kx]∧(pc.take (k+1)).map Prod.snd=(pc.take k).map Prod.snd ++ [vx] by
       rw [List.take_succ_eq_append_getElem hkl,List.map_append,List.map_append,hkx,hvx]
       exact ⟨rfl,rfl⟩)
      have hki:(k:Int)<(ck:Int):=by omega
      have hk0:(0:Int)≤(k:Int):=by omega
      obtain ⟨ks,hks⟩ : ∃q,q=(pc.take k).map Prod.fst:=⟨_,rfl⟩
      obtain ⟨vs,hvs⟩ : ∃q,q=(pc.take k).map Prod.snd:=⟨_,rfl⟩
      rw [← hks,← hvs] at HG HTK
      have HKL:=hid (show ks.length=k∧vs.length=k∧k<7 by rw [hks,hvs,List.length_map,List.length_map,List.length_take]; omega)
      have b2:=(Below.refl wv.heap.size wv).alloc (Nat.le_refl _) (.cells #[.int .u64 (kx.toNat:Int),.int .u64 (vx.toNat:Int)] 104)
      have r2:=alloc_rowV wv 104 [.int .u64 (kx.toNat:Int),.int .u64 (vx.toNat:Int)]
      clear hkx hvx hks hvs hkl hpe hau
      go_upto_region 14 with (fail)
      obtain ⟨X12,hX12⟩ : ∃X,X=wv.heap.size:=⟨_,rfl⟩
      have HTW:=hid (HG.out.two.below b2)
      have HR10:=hid (HG.out.row.below HG.out.row.lt b2)
      have HNE:=hid (show X12≠X10 by have:=HG.out.row.lt; omega)
      have HK12:=hid (show Kp3 (wv.alloc (.cells #[.int .u64 (kx.toNat:Int),.int .u64 (vx.toNat:Int)] 104)) X Y X12 104 [.int .u64 (kx.toNat:Int),.int .u64 (vx.toNat:Int)] by rw [hX12]; exact Kp3.new HG.out.two _ _)
      rw [← hX12]
      clear b2 r2 hX12 cl0 cl1 HLv
      generalize wv.alloc (.cells #[.int .u64 (kx.toNat:Int),.int .u64 (vx.toNat:Int)] 104)=w2 at *
      have st:=(show Still w2 w2.drew from ⟨rfl,rfl,rfl,rfl⟩).below w2.heap.size
      have HTWd:=hid (HTW.out.below st)
      have HR10d:=hid (HR10.out.below HR10.out.lt st)
      have HK12d:=hid (HK12.out.below st)
      clear st
      refine Inv2.wp_region_inv (fun b a wy => ∃(z:Nat→Value) (z56:Value) (z57:Value) (z62:Value) (z63:Value),a=⟨(List.toArray (Value.pointer (some ⟨A.b,0,none⟩) :: Value.slice (some ⟨bL,oL,none⟩) N1 c1 :: undef :: undef :: u4 :: u5 :: Value.int IntKind.i64 ↑lv :: Value.int IntKind.i64 ↑M :: u8 :: Value.int IntKind.i64 ↑i :: Value.pointer (some ⟨X10,0,none⟩) :: undef :: Value.pointer (some ⟨X12,0,none⟩) :: u13 :: u14 :: Value.slice LA N c :: Value.int IntKind.i64 ↑N :: Value.bool false :: u18 :: u19 :: Value.slice (some ⟨bL,oL,none⟩) N1 c1 :: Value.int IntKind.i64 ↑N1 :: Value.int IntKind.i64 (↑N1+7) :: Value.int IntKind.i64 (↑N1+7-1) :: Value.int IntKind.i64 ↑M :: Value.int IntKind.i64 ↑M :: Value.int IntKind.i64 ↑i :: Value.bool true :: Value.int IntKind.i64 ↑i :: Value.int IntKind.i64 ↑lv :: Value.bool bl :: Value.agg #[Value.bool bl,Value.slice none 0 0,Value.slice none 0 0] :: Value.slice (some ⟨bL,oL,none⟩) N1 c1 :: Value.int IntKind.i64 ↑i :: Value.slice (some ⟨bL,oL,none⟩) N1 c1 :: Value.int IntKind.i64 ↑N1 :: Value.int IntKind.i64 (↑i * ↑N1) :: Value.int IntKind.i64 ↑M :: Value.int IntKind.i64 ↑ca :: Value.int IntKind.i64 ↑i :: Value.int IntKind.i64 (↑i+1) :: Value.slice (some ⟨bL,oL,none⟩) N1 c1 :: Value.int IntKind.i64 ↑N1 :: Value.int IntKind.i64 ((↑i+1) * ↑N1) :: Value.int IntKind.i64 ↑M :: Value.int IntKind.i64 (↑ca + ↑ck) :: Value.slice (some ⟨bL,oL+ca*2,none⟩) ck (c1-ca) :: Value.int IntKind.i64 ↑ck :: Value.int IntKind.i64 ↑k :: Value.bool true :: Value.pointer (some ⟨bL,oL+ca*2+k*2,none⟩) :: Value.agg #[Value.int IntKind.u64 ↑kx.toNat,Value.int IntKind.u64 ↑vx.toNat] :: (z 52) :: (z 53) :: (z 54) :: (z 55) :: z56 :: z57 :: (z 58) :: (z 59) :: (z 60) :: (z 61) :: z62 :: z63 :: (z 64) :: (z 65) :: u66 :: u67 :: u68 :: u69 :: u70 :: u71 :: u72 :: u73 :: u74 :: u75 :: u76 :: u77 :: u78 :: u79 :: u80 :: u81 :: u82 :: u83 :: u84 :: u85 :: u86 :: u87 :: u88 :: u89 :: u90 :: u91 :: u92 :: u93 :: [])),[]⟩∧Hid ((b 0=true→(z 52) = .pointer (some ⟨X10,1,none⟩))∧(b 1=true→(z 53)=X)∧(b 2=true→(z 54) = .pointer (some ⟨X12,0,none⟩))∧(b 3=true→(z 55) = .int .u64 (kx.toNat:Int))∧(b 6=true→(z 58) = .pointer (some ⟨X10,2,none⟩))∧(b 7=true→(z 59)=Y)∧(b 8=true→(z 60) = .pointer (some ⟨X12,1,none⟩))∧(b 9=true→(z 61) = .int .u64 (vx.toNat:Int))∧(b 12=true→(z 64) = .pointer (some ⟨X10,1,none⟩))∧(b 14=true→(z 65) = .pointer (some ⟨X10,2,none⟩)))∧Hid True∧Hid ((∃X' Y' ns ms a1 a2,Two w1 wy X10 (X10+1) X' Y' ns ms∧RowV wy X10 107 [.bool bl,a1,a2]∧Kp3 wy X' Y' X12 104 [.int .u64 (kx.toNat:Int),.int .u64 (vx.toNat:Int)]∧(b 5=false→X'=X∧ns=ks)∧(b 5=true→z57=X'∧(∃j c,X' = .slice (some ⟨j,0,none⟩) (ks.length+1) c)∧ns=ks ++ [kx])∧(b 11=false→Y'=Y∧ms=vs)∧(b 11=true→z63=Y'∧(∃j c,Y' = .slice (some ⟨j,0,none⟩) (vs.length+1) c)∧ms=vs ++ [vx])∧(b 4=true → ∃g,z56 = .slice (some ⟨g,0,none⟩) 1 1∧Kp3 wy X' Y' g 30 [.int .u64 (kx.toNat:Int)])∧(b 10=true → ∃g,z62 = .slice (some ⟨g,0,none⟩) 1 1∧Kp3 wy X' Y' g 30 [.int .u64 (vx.toNat:Int)])∧(b 13=false→a1=X)∧(b 13=true→a1=X')∧(b 15=false→a2=Y)∧(b 15=true→a2=Y'))∧(b 13=true→b 1=true∧b 5=true)∧(b 15=true→b 7=true∧b 11=true)∧(b 5=true→b 1=true∧b 4=true)∧(b 11=true→b 7=true∧b 10=true))) (by kernel_rfl) (by kernel_rfl) ?startD ?stepsD ?doneD
      case startD =>
       intro b hb
       refine ⟨fun s=>if s=52 then u52 else if s=53 then u53 else if s=54 then u54 else if s=55 then u55 else if s=58 then u58 else if s=59 then u59 else if s=60 then u60 else if s=61 then u61 else if s=64 then u64 else if s=65 then u65 else undef,u56,u57,u62,u63,rfl,hid ⟨?_,?_,?_,?_,?_,?_,?_,?_,?_,?_⟩,hid trivial,hid (⟨⟨X,Y,ks,vs,X,Y,HTWd.out,HR10d.out,HK12d.out,fun _=>⟨rfl,rfl⟩,fun e=>absurd (e.symm.trans (hb 5 (by decide))) (by decide),fun _=>⟨rfl,rfl⟩,fun e=>absurd (e.symm.trans (hb 11 (by decide))) (by decide),fun e=>absurd (e.symm.trans (hb 4 (by decide))) (by decide),fun e=>absurd (e.symm.trans (hb 10 (by decide))) (by decide),fun _=>rfl,fun e=>absurd (e.symm.trans (hb 13 (by decide))) (by decide),fun _=>rfl,fun e=>absurd (e.symm.trans (hb 15 (by decide))) (by decide)⟩,fun e=>absurd (e.symm.trans (hb 13 (by decide))) (by decide),fun e=>absurd (e.symm.trans (hb 15 (by decide))) (by decide),fun e=>absurd (e.symm.trans (hb 5 (by decide))) (by decide),fun e=>absurd (e.symm.trans (hb 11 (by decide))) (by decide)⟩)⟩
       all_goals (intro e; first | rfl | (rw [hb _ (by decide)] at e; cases e))
      case stepsD =>
       refine ⟨?_,?_,?_,?_,?_,?_,?_,?_,?_,?_,?_,?_,?_,?_,?_,?_,trivial⟩
       ·rintro b a wy hb hd ⟨z,z56,z57,z62,z63,rfl,HV,HW,HX⟩ K hK
        clear hd
        go_simp
        have V:=HV.out
        exact hK _ _ ⟨fun s=>if s=52 then .pointer (some ⟨X10,1,none⟩) else z s,_,_,_,_,rfl,hid ⟨fun _=>rfl,V.2.1,V.2.2.1,V.2.2.2.1,V.2.2.2.2.1,V.2.2.2.2.2.1,V.2.2.2.2.2.2.1,V.2.2.2.2.2.2.2.1,V.2.2.2.2.2.2.2.2.1,V.2.2.2.2.2.2.2.2.2⟩,HW,HX⟩
       ·rintro b a wy hb hd ⟨z,z56,z57,z62,z63,rfl,HV,HW,HX⟩ K hK
        simp [Region.binds] at hd
        have e0:(z 52) = .pointer (some ⟨X10,1,none⟩):=(HV.out.1) (by simp [hd])
        clear hd
        obtain ⟨⟨X',Y',ns,ms,a1,a2,T2,hrow,k12,x5,x5',y11,y11',g4,g10,a1f,a1t,a2f,a2t⟩,o13,o15,o5,o11⟩:=HX.out
        have n13:b 13=false:=by
         cases e:b 13 with
         | false=>rfl
         | true=>have:=(o13 e).1; rw [hb] at this; cases this
        have hc:=hrow.cellAt (i:=1) rfl
        rw [a1f n13] at hc
        go_simp
        have V:=HV.out
        exact hK _ _ ⟨fun s=>if s=53 then X else if s=52 then .pointer (some ⟨X10,1,none⟩) else z s,_,_,_,_,rfl,hid ⟨fun _=>rfl,fun _=>rfl,V.2.2.1,V.2.2.2.1,V.2.2.2.2.1,V.2.2.2.2.2.1,V.2.2.2.2.2.2.1,V.2.2.2.2.2.2.2.1,V.2.2.2.2.2.2.2.2.1,V.2.2.2.2.2.2.2.2.2⟩,HW,hid ⟨HX.out.1,fun e=>⟨rfl,(HX.out.2.1 e).2⟩,HX.out.2.2.1,fun e=>⟨rfl,(HX.out.2.2.2.1 e).2⟩,HX.out.2.2.2.2⟩⟩
       ·rintro b a wy hb hd ⟨z,z56,z57,z62,z63,rfl,HV,HW,HX⟩ K hK
        clear hd
        go_simp
        have V:=HV.out
        exact hK _ _ ⟨fun s=>if s=54 then .pointer (some ⟨X12,0,none⟩) else z s,_,_,_,_,rfl,hid ⟨V.1,V.2.1,fun _=>rfl,V.2.2.2.1,V.2.2.2.2.1,V.2.2.2.2.2.1,V.2.2.2.2.2.2.1,V.2.2.2.2.2.2.2.1,V.2.2.2.2.2.2.2.2.1,V.2.2.2.2.2.2.2.2.2⟩,HW,HX⟩
       ·rintro b a wy hb hd ⟨z,z56,z57,z62,z63,rfl,HV,HW,HX⟩ K hK
        simp [Region.binds] at hd
        have e2:(z 54) = .pointer (some ⟨X12,0,none⟩):=(HV.out.2.2.1) (by simp [hd])
        clear hd
        have hc:wy.cell? ⟨X12,0,none⟩=some (.int .u64 (kx.toNat:Int)):=by
         obtain ⟨⟨X',Y',ns,ms,a1,a2,T2,hrow,k12,x5,x5',y11,y11',g4,g10,a1f,a1t,a2f,a2t⟩,o13,o15,o5,o11⟩:=HX.out
         exact (k12.1).cellAt (i:=0) rfl
        go_simp
        have V:=HV.out
        exact hK _ _ ⟨fun s=>if s=55 then .int .u64 (kx.toNat:Int) else if s=54 then .pointer (some ⟨X12,0,none⟩) else z s,_,_,_,_,rfl,hid ⟨V.1,V.2.1,fun _=>rfl,fun _=>rfl,V.2.2.2.2.1,V.2.2.2.2.2.1,V.2.2.2.2.2.2.1,V.2.2.2.2.2.2.2.1,V.2.2.2.2.2.2.2.2.1,V.2.2.2.2.2.2.2.2.2⟩,HW,HX⟩
       ·rintro b a wy hb hd ⟨z,z56,z57,z62,z63,rfl,HV,HW,HX⟩ K hK
        simp [Region.binds] at hd
        have e3:(z 55) = .int .u64 (kx.toNat:Int):=(HV.out.2.2.2.1) (by simp [hd])
        clear hd
        go_simp
        obtain ⟨⟨X',Y',ns,ms,a1,a2,T2,hrow,k12,x5,x5',y11,y11',g4,g10,a1f,a1t,a2f,a2t⟩,o13,o15,o5,o11⟩:=HX.out
        have V:=HV.out
        exact hK _ _ ⟨fun s=>if s=55 then .int .u64 (kx.toNat:Int) else z s,_,_,_,_,rfl,hid ⟨V.1,V.2.1,V.2.2.1,fun _=>rfl,V.2.2.2.2.1,V.2.2.2.2.2.1,V.2.2.2.2.2.2.1,V.2.2.2.2.2.2.2.1,V.2.2.2.2.2.2.2.2.1,V.2.2.2.2.2.2.2.2.2⟩,HW,hid ⟨⟨X',Y',ns,ms,a1,a2,T2.below ((Below.refl wy.heap.size wy).alloc (Nat.le_refl _) _),hrow.below hrow.lt ((Below.refl wy.heap.size wy).alloc (Nat.le_refl _) _),k12.below ((Below.refl wy.heap.size wy).alloc (Nat.le_refl _) _),x5,x5',y11,y11',fun _=>⟨wy.heap.size,rfl,Kp3.new T2 _ _⟩,fun e=>(g10 e).elim fun g ⟨e1,e2⟩=>⟨g,e1,e2.below ((Below.refl wy.heap.size wy).alloc (Nat.le_refl _) _)⟩,a1f,a1t,a2f,a2t⟩,o13,o15,fun e=>⟨(o5 e).1,rfl⟩,o11⟩⟩
       ·rintro b a wy hb hd ⟨z,z56,z57,z62,z63,rfl,HV,HW,HX⟩ K hK
        simp [Region.binds] at hd
        have e1:(z 53)=X:=(HV.out.2.1) (by simp [hd])
        have dd4:b 4=true:=by simp [hd]
        have d1:b 1=true:=by simp [hd]
        have d4:b 4=true:=by simp [hd]
        have HD5:=hid d4
        have HD51:=hid d1
        clear d1 d4
        clear hd
        obtain ⟨⟨X',Y',ns,ms,a1,a2,T2,hrow,k12,x5,x5',y11,y11',g4,g10,a1f,a1t,a2f,a2t⟩,o13,o15,o5,o11⟩:=HX.out
        have ex:=(x5 hb).1
        have en:=(x5 hb).2
        subst X'
        subst ns
        obtain ⟨gk,rfl,kg⟩:=g4 HD5.out
        rw [e1]
        refine step_app_num rfl (.tmp 53) (.tmp 56) rfl (X10+1) X ks rfl T2.ok (by have:=HKL.out; omega) gk kx rfl (kg.1.cellAt (i:=0) rfl) T2.b0 (fun g5 cap5 w5 ho hg hl => ?_)
        have V:=HV.out
        exact hK _ _ ⟨fun s=>if s=53 then X else z s,_,_,_,_,rfl,hid ⟨V.1,fun _=>rfl,V.2.2.1,V.2.2.2.1,V.2.2.2.2.1,V.2.2.2.2.2.1,V.2.2.2.2.2.2.1,V.2.2.2.2.2.2.2.1,V.2.2.2.2.2.2.2.2.1,V.2.2.2.2.2.2.2.2.2⟩,HW,hid ⟨⟨_,Y',_,ms,a1,a2,T2.pushK ho hg hl,hrow.block (hg.block X10 hrow.lt (fun e=>(by have:=(World.ownsRow.lt T2.ok _ e.symm).1; omega))),k12.pushK hg hl,fun e=>(by simp [Inv.mark] at e),fun _=>⟨rfl,⟨g5,cap5,rfl⟩,rfl⟩,y11,y11',fun e=>⟨gk,rfl,kg.pushK hg hl⟩,fun e=>(g10 e).elim fun g ⟨e1,e2⟩=>⟨g,e1,e2.pushK hg hl⟩,a1f,fun e=>absurd ((o13 e).2.symm.trans hb) (by decide),a2f,a2t⟩,fun e=>⟨(o13 e).1,rfl⟩,o15,fun _=>⟨HD51.out,HD5.out⟩,o11⟩⟩
       ·rintro b a wy hb hd ⟨z,z56,z57,z62,z63,rfl,HV,HW,HX⟩ K hK
        clear hd
        go_simp
        have V:=HV.out
        exact hK _ _ ⟨fun s=>if s=58 then .pointer (some ⟨X10,2,none⟩) else z s,_,_,_,_,rfl,hid ⟨V.1,V.2.1,V.2.2.1,V.2.2.2.1,fun _=>rfl,V.2.2.2.2.2.1,V.2.2.2.2.2.2.1,V.2.2.2.2.2.2.2.1,V.2.2.2.2.2.2.2.2.1,V.2.2.2.2.2.2.2.2.2⟩,HW,HX⟩
       ·rintro b a wy hb hd ⟨z,z56,z57,z62,z63,rfl,HV,HW,HX⟩ K hK
        simp [Region.binds] at hd
        have e6:(z 58) = .pointer (some ⟨X10,2,none⟩):=(HV.out.2.2.2.2.1) (by simp [hd])
        clear hd
        obtain ⟨⟨X',Y',ns,ms,a1,a2,T2,hrow,k12,x5,x5',y11,y11',g4,g10,a1f,a1t,a2f,a2t⟩,o13,o15,o5,o11⟩:=HX.out
        have n15:b 15=false:=by
         cases e:b 15 with
         | false=>rfl
         | true=>have:=(o15 e).1; rw [hb] at this; cases this
        have hc:=hrow.cellAt (i:=2) rfl
        rw [a2f n15] at hc
        go_simp
        have V:=HV.out
        exact hK _ _ ⟨fun s=>if s=59 then Y else if s=58 then .pointer (some ⟨X10,2,none⟩) else z s,_,_,_,_,rfl,hid ⟨V.1,V.2.1,V.2.2.1,V.2.2.2.1,fun _=>rfl,fun _=>rfl,V.2.2.2.2.2.2.1,V.2.2.2.2.2.2.2.1,V.2.2.2.2.2.2.2.2.1,V.2.2.2.2.2.2.2.2.2⟩,HW,hid ⟨HX.out.1,HX.out.2.1,fun e=>⟨rfl,(HX.out.2.2.1 e).2⟩,HX.out.2.2.2.1,fun e=>⟨rfl,(HX.out.2.2.2.2 e).2⟩⟩⟩
       ·rintro b a wy hb hd ⟨z,z56,z57,z62,z63,rfl,HV,HW,HX⟩ K hK
        clear hd
        go_simp
        have V:=HV.out
        exact hK _ _ ⟨fun s=>if s=60 then .pointer (some ⟨X12,1,none⟩) else z s,_,_,_,_,rfl,hid ⟨V.1,V.2.1,V.2.2.1,V.2.2.2.1,V.2.2.2.2.1,V.2.2.2.2.2.1,fun _=>rfl,V.2.2.2.2.2.2.2.1,V.2.2.2.2.2.2.2.2.1,V.2.2.2.2.2.2.2.2.2⟩,HW,HX⟩
       ·rintro b a wy hb hd ⟨z,z56,z57,z62,z63,rfl,HV,HW,HX⟩ K hK
        simp [Region.binds] at hd
        have e8:(z 60) = .pointer (some ⟨X12,1,none⟩):=(HV.out.2.2.2.2.2.2.1) (by simp [hd])
        clear hd
        have hc:wy.cell? ⟨X12,1,none⟩=some (.int .u64 (vx.toNat:Int)):=by
         obtain ⟨⟨X',Y',ns,ms,a1,a2,T2,hrow,k12,x5,x5',y11,y11',g4,g10,a1f,a1t,a2f,a2t⟩,o13,o15,o5,o11⟩:=HX.out
         exact (k12.1).cellAt (i:=1) rfl
        go_simp
        have V:=HV.out
        exact hK _ _ ⟨fun s=>if s=61 then .int .u64 (vx.toNat:Int) else if s=60 then .pointer (some ⟨X12,1,none⟩) else z s,_,_,_,_,rfl,hid ⟨V.1,V.2.1,V.2.2.1,V.2.2.2.1,V.2.2.2.2.1,V.2.2.2.2.2.1,fun _=>rfl,fun _=>rfl,V.2.2.2.2.2.2.2.2.1,V.2.2.2.2.2.2.2.2.2⟩,HW,HX⟩
       ·rintro b a wy hb hd ⟨z,z56,z57,z62,z63,rfl,HV,HW,HX⟩ K hK
        simp [Region.binds] at hd
        have e9:(z 61) = .int .u64 (vx.toNat:Int):=(HV.out.2.2.2.2.2.2.2.1) (by simp [hd])
        clear hd
        go_simp
        obtain ⟨⟨X',Y',ns,ms,a1,a2,T2,hrow,k12,x5,x5',y11,y11',g4,g10,a1f,a1t,a2f,a2t⟩,o13,o15,o5,o11⟩:=HX.out
        have V:=HV.out
        exact hK _ _ ⟨fun s=>if s=61 then .int .u64 (vx.toNat:Int) else z s,_,_,_,_,rfl,hid ⟨V.1,V.2.1,V.2.2.1,V.2.2.2.1,V.2.2.2.2.1,V.2.2.2.2.2.1,V.2.2.2.2.2.2.1,fun _=>rfl,V.2.2.2.2.2.2.2.2.1,V.2.2.2.2.2.2.2.2.2⟩,HW,hid ⟨⟨X',Y',ns,ms,a1,a2,T2.below ((Below.refl wy.heap.size wy).alloc (Nat.le_refl _) _),hrow.below hrow.lt ((Below.refl wy.heap.size wy).alloc (Nat.le_refl _) _),k12.below ((Below.refl wy.heap.size wy).alloc (Nat.le_refl _) _),x5,x5',y11,y11',fun e=>(g4 e).elim fun g ⟨e1,e2⟩=>⟨g,e1,e2.below ((Below.refl wy.heap.size wy).alloc (Nat.le_refl _) _)⟩,fun _=>⟨wy.heap.size,rfl,Kp3.new T2 _ _⟩,a1f,a1t,a2f,a2t⟩,o13,o15,o5,fun e=>⟨(o11 e).1,rfl⟩⟩⟩
       ·rintro b a wy hb hd ⟨z,z56,z57,z62,z63,rfl,HV,HW,HX⟩ K hK
        simp [Region.binds] at hd
        have e7:(z 59)=Y:=(HV.out.2.2.2.2.2.1) (by simp [hd])
        have dd10:b 10=true:=by simp [hd]
        have d1:b 7=true:=by simp [hd]
        have d4:b 10=true:=by simp [hd]
        have HD11:=hid d4
        have HD111:=hid d1
        clear d1 d4
        clear hd
        obtain ⟨⟨X',Y',ns,ms,a1,a2,T2,hrow,k12,x5,x5',y11,y11',g4,g10,a1f,a1t,a2f,a2t⟩,o13,o15,o5,o11⟩:=HX.out
        have ex:=(y11 hb).1
        have en:=(y11 hb).2
        subst Y'
        subst ms
        obtain ⟨gk,rfl,kg⟩:=g10 HD11.out
        rw [e7]
        refine step_app_num rfl (.tmp 59) (.tmp 62) rfl (X10+1) Y vs rfl T2.ov (by have:=HKL.out; omega) gk vx rfl (kg.1.cellAt (i:=0) rfl) T2.b0 (fun g5 cap5 w5 ho hg hl => ?_)
        have V:=HV.out
        exact hK _ _ ⟨fun s=>if s=59 then Y else z s,_,_,_,_,rfl,hid ⟨V.1,V.2.1,V.2.2.1,V.2.2.2.1,V.2.2.2.2.1,fun _=>rfl,V.2.2.2.2.2.2.1,V.2.2.2.2.2.2.2.1,V.2.2.2.2.2.2.2.2.1,V.2.2.2.2.2.2.2.2.2⟩,HW,hid ⟨⟨X',_,ns,_,a1,a2,T2.pushV ho hg hl,hrow.block (hg.block X10 hrow.lt (fun e=>(by have:=(World.ownsRow.lt T2.ov _ e.symm).1; omega))),k12.pushV hg hl,x5,x5',fun e=>(by simp [Inv.mark] at e),fun _=>⟨rfl,⟨g5,cap5,rfl⟩,rfl⟩,fun e=>(g4 e).elim fun g ⟨e1,e2⟩=>⟨g,e1,e2.pushV hg hl⟩,fun e=>⟨gk,rfl,kg.pushV hg hl⟩,a1f,a1t,a2f,fun e=>absurd ((o15 e).2.symm.trans hb) (by decide)⟩,o13,fun e=>⟨(o15 e).1,rfl⟩,o5,fun _=>⟨HD111.out,HD11.out⟩⟩⟩
       ·rintro b a wy hb hd ⟨z,z56,z57,z62,z63,rfl,HV,HW,HX⟩ K hK
        clear hd
        go_simp
        have V:=HV.out
        exact hK _ _ ⟨fun s=>if s=64 then .pointer (some ⟨X10,1,none⟩) else z s,_,_,_,_,rfl,hid ⟨V.1,V.2.1,V.2.2.1,V.2.2.2.1,V.2.2.2.2.1,V.2.2.2.2.2.1,V.2.2.2.2.2.2.1,V.2.2.2.2.2.2.2.1,fun _=>rfl,V.2.2.2.2.2.2.2.2.2⟩,HW,HX⟩
       ·rintro b a wy hb hd ⟨z,z56,z57,z62,z63,rfl,HV,HW,HX⟩ K hK
        simp [Region.binds] at hd
        have e12:(z 64) = .pointer (some ⟨X10,1,none⟩):=(HV.out.2.2.2.2.2.2.2.2.1) (by simp [hd])
        have dd5:b 5=true:=by simp [hd]
        have d1:b 1=true:=by simp [hd]
        have d4:b 5=true:=by simp [hd]
        have HD13:=hid d4
        have HD131:=hid d1
        clear d1 d4
        clear hd
        have HZ : ∃j c,z57 = .slice (some ⟨j,0,none⟩) (ks.length+1) c:=by
         obtain ⟨⟨X',Y',ns,ms,a1,a2,T2,hrow,k12,x5,x5',y11,y11',g4,g10,a1f,a1t,a2f,a2t⟩,o13,o15,o5,o11⟩:=HX.out
         obtain ⟨e1,⟨j,c,e2⟩,_⟩:=x5' HD13.out
         exact ⟨j,c,e1.trans e2⟩
        obtain ⟨j0,c0,rfl⟩:=HZ
        have hcf:(∃v,wy.cell? ⟨X10,1,none⟩=some v)∧wy.frozen? ⟨X10,1,none⟩=false:=by
         obtain ⟨⟨X',Y',ns,ms,a1,a2,T2,hrow,k12,x5,x5',y11,y11',g4,g10,a1f,a1t,a2f,a2t⟩,o13,o15,o5,o11⟩:=HX.out
         exact ⟨⟨_,hrow.cellAt (i:=1) rfl⟩,hrow.free 1⟩
        obtain ⟨⟨v0,hc⟩,hf⟩:=hcf
        go_simp
        obtain ⟨⟨X',Y',ns,ms,a1,a2,T2,hrow,k12,x5,x5',y11,y11',g4,g10,a1f,a1t,a2f,a2t⟩,o13,o15,o5,o11⟩:=HX.out
        have V:=HV.out
        exact hK _ _ ⟨fun s=>if s=64 then .pointer (some ⟨X10,1,none⟩) else z s,_,_,_,_,rfl,hid ⟨V.1,V.2.1,V.2.2.1,V.2.2.2.1,V.2.2.2.2.1,V.2.2.2.2.2.1,V.2.2.2.2.2.2.1,V.2.2.2.2.2.2.2.1,fun _=>rfl,V.2.2.2.2.2.2.2.2.2⟩,HW,hid ⟨⟨X',Y',ns,ms,_,a2,T2.set ⟨Nat.le_refl _,Nat.lt_succ_self _⟩ 1 _,hrow.set 1 _,k12.set HNE.out 1 _,x5,x5',y11,y11',fun e=>(g4 e).elim fun g ⟨e1,e2⟩=>⟨g,e1,e2.set (fun q=>(by rw [q] at e2; exact absurd (kp_ne e2 hrow) id)) 1 _⟩,fun e=>(g10 e).elim fun g ⟨e1,e2⟩=>⟨g,e1,e2.set (fun q=>(by rw [q] at e2; exact absurd (kp_ne e2 hrow) id)) 1 _⟩,fun e=>(by simp [Inv.mark] at e),fun _=>(x5' HD13.out).1,a2f,a2t⟩,fun _=>⟨HD131.out,HD13.out⟩,o15,o5,o11⟩⟩
       ·rintro b a wy hb hd ⟨z,z56,z57,z62,z63,rfl,HV,HW,HX⟩ K hK
        clear hd
        go_simp
        have V:=HV.out
        exact hK _ _ ⟨fun s=>if s=65 then .pointer (some ⟨X10,2,none⟩) else z s,_,_,_,_,rfl,hid ⟨V.1,V.2.1,V.2.2.1,V.2.2.2.1,V.2.2.2.2.1,V.2.2.2.2.2.1,V.2.2.2.2.2.2.1,V.2.2.2.2.2.2.2.1,V.2.2.2.2.2.2.2.2.1,fun _=>rfl⟩,HW,HX⟩
       ·rintro b a wy hb hd ⟨z,z56,z57,z62,z63,rfl,HV,HW,HX⟩ K hK
        simp [Region.binds] at hd
        have e14:(z 65) = .pointer (some ⟨X10,2,none⟩):=(HV.out.2.2.2.2.2.2.2.2.2) (by simp [hd])
        have dd11:b 11=true:=by simp [hd]
        have d1:b 7=true:=by simp [hd]
        have d4:b 11=true:=by simp [hd]
        have HD15:=hid d4
        have HD151:=hid d1
        clear d1 d4
        clear hd
        have HZ : ∃j c,z63 = .slice (some ⟨j,0,none⟩) (vs.length+1) c:=by
         obtain ⟨⟨X',Y',ns,ms,a1,a2,T2,hrow,k12,x5,x5',y11,y11',g4,g10,a1f,a1t,a2f,a2t⟩,o13,o15,o5,o11⟩:=HX.out
         obtain ⟨e1,⟨j,c,e2⟩,_⟩:=y11' HD15.out
         exact ⟨j,c,e1.trans e2⟩
        obtain ⟨j0,c0,rfl⟩:=HZ
        have hcf:(∃v,wy.cell? ⟨X10,2,none⟩=some v)∧wy.frozen? ⟨X10,2,none⟩=false:=by
         obtain ⟨⟨X',Y',ns,ms,a1,a2,T2,hrow,k12,x5,x5',y11,y11',g4,g10,a1f,a1t,a2f,a2t⟩,o13,o15,o5,o11⟩:=HX.out
         exact ⟨⟨_,hrow.cellAt (i:=2) rfl⟩,hrow.free 2⟩
        obtain ⟨⟨v0,hc⟩,hf⟩:=hcf
        go_simp
        obtain ⟨⟨X',Y',ns,ms,a1,a2,T2,hrow,k12,x5,x5',y11,y11',g4,g10,a1f,a1t,a2f,a2t⟩,o13,o15,o5,o11⟩:=HX.out
        have V:=HV.out
        exact hK _ _ ⟨fun s=>if s=65 then .pointer (some ⟨X10,2,none⟩) else z s,_,_,_,_,rfl,hid ⟨V.1,V.2.1,V.2.2.1,V.2.2.2.1,V.2.2.2.2.1,V.2.2.2.2.2.1,V.2.2.2.2.2.2.1,V.2.2.2.2.2.2.2.1,V.2.2.2.2.2.2.2.2.1,fun _=>rfl⟩,HW,hid ⟨⟨X',Y',ns,ms,a1,_,T2.set ⟨Nat.le_refl _,Nat.lt_succ_self _⟩ 2 _,hrow.set 2 _,k12.set HNE.out 2 _,x5,x5',y11,y11',fun e=>(g4 e).elim fun g ⟨e1,e2⟩=>⟨g,e1,e2.set (fun q=>(by rw [q] at e2; exact absurd (kp_ne e2 hrow) id)) 2 _⟩,fun e=>(g10 e).elim fun g ⟨e1,e2⟩=>⟨g,e1,e2.set (fun q=>(by rw [q] at e2; exact absurd (kp_ne e2 hrow) id)) 2 _⟩,a1f,a1t,fun e=>(by simp [Inv.mark] at e),fun _=>(y11' HD15.out).1⟩,o13,fun _=>⟨HD151.out,HD15.out⟩,o5,o11⟩⟩
      case doneD =>
       rintro b a wy hb ⟨z,z56,z57,z62,z63,rfl,HV,HW,HX⟩
       have e0:=(HV.out.1) (hb 0)
       have e1:=(HV.out.2.1) (hb 1)
       have e2:=(HV.out.2.2.1) (hb 2)
       have e3:=(HV.out.2.2.2.1) (hb 3)
       have e6:=(HV.out.2.2.2.2.1) (hb 6)
       have e7:=(HV.out.2.2.2.2.2.1) (hb 7)
       have e8:=(HV.out.2.2.2.2.2.2.1) (hb 8)
       have e9:=(HV.out.2.2.2.2.2.2.2.1) (hb 9)
       have e12:=(HV.out.2.2.2.2.2.2.2.2.1) (hb 12)
       have e14:=(HV.out.2.2.2.2.2.2.2.2.2) (hb 14)
       simp only [e0,e1,e2,e3,e6,e7,e8,e9,e12,e14]
       clear HV e0 e1 e2 e3 e6 e7 e8 e9 e12 e14
       obtain ⟨⟨X',Y',ns,ms,a1,a2,T2,hrow,k12,x5,x5',y11,y11',g4,g10,a1f,a1t,a2f,a2t⟩,o13,o15,o5,o11⟩:=HX.out
       obtain ⟨rfl,_,rfl⟩:=x5' (hb 5)
       obtain ⟨rfl,_,rfl⟩:=y11' (hb 11)
       obtain rfl:=a1t (hb 13)
       obtain rfl:=a2t (hb 15)
       have HGn:=hid (show Grow w1 (X10+1) X10 bl a1 a2 ((pc.take (k+1)).map Prod.fst) ((pc.take (k+1)).map Prod.snd) wy from ⟨by rw [HTK.out.1,HTK.out.2]; exact T2,hrow,by omega⟩)
       clear hb HX T2 hrow k12 x5 x5' y11 y11' g4 g10 a1f a1t a2f a2t o13 o15 o5 o11
       go_wp2_with fail
       go_roundw
       case rel=>exact ⟨k+1,_,_,by go_num,by omega,HGn⟩
       case measure=>simp [Go.RowKit.intOf]; omega
     ·obtain rfl:k=ck:=by omega
      have hlk:pc.take k=pc:=List.take_of_length_le (by rw [HPL.out]; exact Nat.le_refl _)
      rw [hlk] at HG
      obtain ⟨aK,cK,eK,t1,t2,t3⟩:=HG.out.two.ok.slice
      obtain ⟨aV,cV,eV,v1,v2,v3⟩:=HG.out.two.ov.slice
      rw [List.length_map,HPL.out] at eK eV t2 v2
      subst eK eV
      have hnd:Nd wr aK k cK aV k cV (pc.map Prod.fst) (pc.map Prod.snd):=⟨by rw [List.length_map,HPL.out],by rw [List.length_map,HPL.out],t2,t3,v2,v3,t1,v1⟩
      have hbw:Below wz.heap.size wz wr:=HB1.out.trans (by rw [← HX10.out]; exact HG.out.two.bw)
      have hat0:=HAT.out.below hbw
      have hal : ∀j∈A.list,j<w.heap.size:=HAL.out
      have hLz:wL.heap.size≤wz.heap.size:=HBT.out.size
      have hx10:w.heap.size≤X10:=by have:=HX10.out; omega
      obtain ⟨G,cap,rfl,hgr,_⟩:=HO.out.slice
      have hgc:=hgr.kc
      have hgm:=hgr.km
      unfold maxLen at hgm
      have HUL2:=hid (show ups2.length=i from HM.out.len)
      have HOv:=hid (HO.out.kept hbw (Nat.le_refl _))
      have HBW:=hid hbw
      have HAL2:=hid hal
      have HT1:=hid t1
      have d0:=HG.out.row.cellAt (i:=0) rfl
      have d1:=HG.out.row.cellAt (i:=1) rfl
      have d2:=HG.out.row.cellAt (i:=2) rfl
      have hki : ¬((k:Int)<(k:Int)):=by omega
      clear hbw hal t1 v1 t2 v2 t3 v3 hgr
      obtain ⟨wv,hwv⟩ : ∃q,q=wr:=⟨_,rfl⟩
      subst hwv
      go_wp2_with fail
      refine (put_law HM.out.fed hat0 HFT.out.2 bl hnd HFT.out.1).mono ?_
      rintro e w3 ⟨b,rfl,hfd,hat,hb⟩
      have HM5:=HM.out.step HRIS.out HILT.out hfd HKA.out.1 HKA.out.2
      rw [← HBL.out,← HPC.out] at HM5
      have HM5:=hid HM5
      have HAT3:=hid hat
      have HBb:=hid hb
      have hbn:b<n:=by have h1:=hfd.1; have e:=HM.out.fed.xn; unfold BS.n at e; omega
      have hn4:n≤400:=HM.out.fed.hi
      have hcv:IntKind.u64.wrap (b:Int)=(b:Int):=by rw [IntKind.wrap_u64]; omega
      obtain ⟨bK,oK,rfl,hK⟩ : ∃b o,aK=some ⟨b,o,none⟩∧Lf.HasN wv b o (pc.map Prod.fst):=by
       rcases HT1.out with q | q
       ·have h2:(pc.map Prod.fst).length=0:=by rw [q]; rfl
        rw [List.length_map,HPL.out] at h2
        omega
       ·exact q
      have hk0:=hK 0 (by rw [List.length_map,HPL.out]; omega)
      obtain ⟨k0,hkk⟩ : ∃y,(pc.map Prod.fst)[0]'(by rw [List.length_map,HPL.out]; omega)=y:=⟨_,rfl⟩
      rw [hkk] at hk0
      have HK0:=hid (show (ups.getD ca (0,0)).1=k0 from by
       obtain ⟨g2,e2⟩:=HPG.out 0 (by rw [HPL.out]; omega)
       rw [← hkk,List.getElem_map,e2,List.getD_eq_getElem?_getD,List.getElem?_eq_getElem (show ca<ups.length from g2)]
       rfl)
      have hbK:X10+1≤bK:=(World.ownsRow.lt HG.out.two.ok bK rfl).1
      have hk3:w3.cell? ⟨bK,oK,none⟩=some (.int .u64 (k0.toNat:Int)):=(World.cell?_of_block (a:=⟨bK,oK,none⟩) (hb.block bK (World.block_lt_of_cell? wv _ hk0) (fun q=>by have:=HAL2.out bK q; omega))).trans hk0
      have hr3:=HG.out.row.block (hb.block X10 HG.out.row.lt (fun q=>by have:=HAL2.out X10 q; omega))
      have d1:=hr3.cellAt (i:=1) rfl
      have hkp:(0:Int)<(k:Int):=by omega
      have hkpn:0<k:=by omega
      obtain ⟨i0,hi0,hz0,hz1,hz2⟩:=info_parts item_info
      have ro:=alloc_rowV w3 104 [.int .u64 (k0.toNat:Int),.int .u64 (b:Int)]
      have hnews : ∀j u,([.int .u64 (k0.toNat:Int),.int .u64 (b:Int)]:List Value)[j]?=some u→(w3.alloc (.cells #[.int .u64 (k0.toNat:Int),.int .u64 (b:Int)] 104)).cell? ((⟨w3.heap.size,0,none⟩:Addr).add j)=some u:=fun j u hj=>by
       rw [add_plain]
       exact ro.has.cellAt hj
      have hones : ∀u∈([.int .u64 (k0.toNat:Int),.int .u64 (b:Int)]:List Value),u.oneCell'=true:=by simp [Value.oneCell']
      have HO3:OwnJ w3 wL.heap.size (.slice G ups2.length cap) ups2:=HOv.out.same fun j e hj=>hb.block j hj (fun q=>by have h1:=HAL2.out j q; have h2:=(HOv.out.lt e).1; omega)
      have al:=(Below.refl w3.heap.size w3).alloc (Nat.le_refl _) (.cells #[.int .u64 (k0.toNat:Int),.int .u64 (b:Int)] 104)
      have HO4:=HO3.kept al (Nat.le_refl _)
      have s3:(w3.alloc (.cells #[.int .u64 (k0.toNat:Int),.int .u64 (b:Int)] 104)).heap.size=w3.heap.size+1:=World.size_alloc ..
      have hs3:wz.heap.size≤w3.heap.size:=Nat.le_trans HBW.out.size hb.size
      clear hfd hat hb d0 d2 hk0 hK hkk
      go_wp2_with (at_builtin; refine wpList_append_own_at _ rfl _ _ 83 rfl wL.heap.size 104 i0 (.agg #[.int .u64 0,.int .u64 0]) 2 16 Tryz.underlying83 hi0 hz0 hz1 hz2 rfl (by decide) (.slice G ups2.length cap) ups2.length (ivs ups2) rfl HO4 ⟨w3.heap.size,0,none⟩ 1 1 [.int .u64 (k0.toNat:Int),.int .u64 (b:Int)] rfl rfl hnews hones (by have:=HUL2.out; unfold maxLen; omega) (by have:=HUL2.out; omega) (by omega) ?_; intro v' w5 hown' hgrow _ hblk; obtain ⟨g',cap',rfl⟩:=ownsRow_succ hown'; have HOW:=hid hown'; have HGR:=hid hgrow)
      have HO5:=hid (show OwnJ w5 wL.heap.size (.slice (some ⟨g',0,none⟩) (ups2.length+1) cap') (ups2 ++ [((ups.getD ca (0,0)).1,UInt64.ofNat b)]) by
       unfold OwnJ
       rw [List.length_append,ivs_append,HK0.out]
       show World.ownsRow _ _ _ _ _ _ (ivs ups2 ++ [.int .u64 (k0.toNat:Int),.int .u64 ((UInt64.ofNat b).toNat:Int)])
       rw [b64 (by omega)]
       exact HOW.out)
      have HAT5:=hid ((HAT3.out.below al).grew HO4 HGR.out)
      have HBT5:=hid (show ButL wL w5 A.list from
       have k3:=HBT.out.trans ((ButL.of_below A.list HBW.out (Nat.le_refl _)).trans (HBb.out.trans (ButL.of_below A.list al (Nat.le_refl _))))
       ⟨HGR.out.os.trans k3.os,HGR.out.tape.trans k3.tape,HGR.out.output.trans k3.output,Nat.le_trans k3.size HGR.out.size,fun j hj hn=>(HGR.out.block j (Nat.lt_of_lt_of_le hj k3.size) (fun e=>by have:=(HO4.lt e.symm).1; omega)).trans (k3.block j hj hn)⟩)
      exact ⟨⟨i+1,_,_,by go_num,by omega,HM5,HO5,HAT5,HBT5⟩,by simp [Go.RowKit.intOf]; omega⟩
   ·obtain rfl:i=M:=by omega
    have hul:ups.length=N1:=HROW.out.el
    have hme:i=manyN ups.length:=by rw [hul]; exact HMM.out
    have HMe:=HM.out
    rw [show Mid x n lv ups segs l i y ups2=Mid x n lv ups segs l (manyN ups.length) y ups2 by rw [← hme]] at HMe
    obtain ⟨G,cap,rfl,hgr,_⟩:=HO.out.slice
    have hul2:ups2.length=i:=HM.out.len
    have hii : ¬((i:Int)<(i:Int)):=by omega
    by_cases h1:i=1
    ·have h7:ups.length≤7:=(many_one (by omega)).1 (by rw [← hme]; exact h1)
     have HR:=hid (HMe.root h7)
     have hon:=HM.out.one
     obtain ⟨kr,v,eu,htr⟩:=HR.out
     have hheld:=htr.at_root
     have hv:=hheld.lt HM.out.fed
     have hn4:=HM.out.fed.hi
     obtain ⟨gb,go,rfl,hcc⟩:=hgr.at (i:=0) (by omega)
     subst eu
     have hc0:wz.cell? ⟨gb,go+1,none⟩=some (.int .u64 (v.toNat:Int)):=(hcc 0 (Nat.zero_lt_one)).2
     have hcv:IntKind.i64.wrap (v.toNat:Int)=(v.toNat:Int):=wrap_i64 (by omega) (by omega)
     have HF9:=hid (show Fed n y∧Held y (v.toNat:Int)∧Tr (nodeR y n) (Held y) (min (lv+1) 2) lv (v.toNat:Int) l∧lv+1=upH N∧(N≤7→x.q.Found v.toNat∧y=x.put v.toNat (nodePage true (l.map Prod.fst) (l.map Prod.snd))) from by
      have hup:=HUP.out
      rw [upH_one (by omega:N1≤7)] at hup
      refine ⟨HM.out.fed,hheld,htr,hup,fun q => ?_⟩
      rw [upH_one q] at hup
      have e0:lv=0:=by omega
      obtain ⟨b,b1,b2,b3⟩:=(hon e0).2 h1 h7
      have e1:v.toNat=b:=b3 (kr,v) (List.mem_cons_self ..)
      have e2:ups=l:=by rw [← HM.out.lev.flat,HM.out.lev.leaf e0,flat_ones]
      rw [e1,b2,e2]
      exact ⟨b1,rfl⟩)
     clear hon htr hheld hcc hme HMe hgr
     subst h1
     go_wp2_with fail
     go_ret2
     exact ⟨v.toNat,rfl,y,lv,HF9.out.1,HF9.out.2.1,HF9.out.2.2.1,HF9.out.2.2.2.1,HF9.out.2.2.2.2,HAT.out,HBT0.out.trans HBT.out⟩
    ·have h7:7<ups.length:=by
      rcases Nat.lt_or_ge 7 ups.length with q | q
      ·exact q
      ·exact absurd (hme.trans ((many_one (by omega)).2 q)) h1
     obtain ⟨segs2,hm2,hl2⟩:=HMe.done h7
     have HM2:=hid hm2
     have hi1:((i:Int)==1)=false:=beq_eq_false_iff_ne.mpr (by omega)
     have HG2:=hid hgr
     have HUP2:=hid (show lv+1+upH ups2.length=upH N by
      have hup:=HUP.out
      rw [← hul,upH_many h7] at hup
      rw [hl2]
      omega)
     have hlv2:lv+1≤200:=by
      have h3:=HUP2.out
      have h4:=upH_le N
      have h5:=upH_pos ups2.length
      omega
     have hml:=many_less h7
     have HSEP2:=hid (show ∀b o,G=some ⟨b,o,none⟩→b∉A.list from fun b o e hm=>by
      subst e
      have h3:=(HO.out.lt (k:=b) rfl).1
      have h4:=HAL.out b hm
      omega)
     have HML:=hid (show lenV (.slice G ups2.length cap)<lenV (.slice LB N1 c1) from by
      show ups2.length<N1
      omega)
     have HB2:=hid (HBT0.out.trans HBT.out)
     have hl3:1≤ups2.length∧ups2.length≤200:=by omega
     clear hm2 hgr HMe hme hml hl2 hul2
     go_wp2_with fail
     exact ⟨⟨lv+1,ups2,segs2,y,G,ups2.length,cap,by go_num,rfl,HG2,HSEP2,HM2,HUP2,hl3.1,hl3.2,hlv2,HAT,HB2⟩,HML.out⟩
end
end Go.Proofs.YtogchamogbendaaGreat.Bs
namespace Go.Proofs.YtogchamogbendaaGreat.Bs
open Go.RowKit Oct Mv Tl Pk Pl Go.Maps Go.ChangeMaps Go.ChangeShapes Go.WideShapes Go.ChangeAt
open Lf (Nd Fit nodePage RowN ToldN Rises)
section
variable {H:Type} {enc:TypeId×Value→H} {W:World}
theorem cellsItem:Tryz.prog.cellsOf 104 = 2:=by kernel_rfl
theorem cellsU64:Tryz.prog.cellsOf 30 = 1:=by kernel_rfl
theorem two_of {α:Type} : ∀(l:List α),l.length=2 → ∃c0 c1,l = [c0,c1]
 | [c0,c1],_=>⟨c0,c1,rfl⟩
theorem u64_of {n:Int} (h:(Lit.int .u64 n).wf=true) : ∃c:UInt64,n=(c.toNat:Int):=by
 have h2:IntKind.u64.min≤n∧n≤IntKind.u64.max:=by simpa [Lit.wf] using h
 have h0:IntKind.u64.min=0:=rfl
 have h1:IntKind.u64.max=18446744073709551615:=rfl
 rw [h0,h1] at h2
 refine ⟨UInt64.ofNat n.toNat,?_⟩
 rw [UInt64.toNat_ofNat',Nat.mod_eq_of_lt (by show n.toNat<18446744073709551616; omega)]
 omega
theorem came_item {n:Nat} {cs:List Value} {y:DataW H×List MemPlace} (h:DataW.trod enc Tryz.prog W 0 (fun _=>true) true n 104 cs=some y) :
  ∃x:Itm,cs = [.int .u64 (x.1.toNat:Int),.int .u64 (x.2.toNat:Int)]:=by
 obtain ⟨xs,n',rfl,hy,hlen,hxl,hf⟩:=DataW.trod_struct Tryz.underlying104 h
 rw [cellsItem] at hlen
 obtain ⟨c0,c1,rfl⟩:=two_of cs hlen
 obtain ⟨y0,y1,rfl⟩:=two_of xs hxl
 have h0:DataW.trod enc Tryz.prog W 0 (fun _=>true) true n' 30 (([c0,c1].drop 0).take (Tryz.prog.cellsOf 30))=some y0:=hf 0 _ rfl
 have h1:DataW.trod enc Tryz.prog W 0 (fun _=>true) true n' 30 (([c0,c1].drop 1).take (Tryz.prog.cellsOf 30))=some y1:=hf 1 _ rfl
 rw [cellsU64] at h0 h1
 obtain ⟨x,e0,_,w0⟩:=DataW.trod_int Tryz.underlying30 h0
 obtain ⟨p,e1,_,w1⟩:=DataW.trod_int Tryz.underlying30 h1
 obtain ⟨x,rfl⟩:=u64_of w0
 obtain ⟨p,rfl⟩:=u64_of w1
 simp at e0 e1
 subst e0 e1
 exact ⟨(x,p),rfl⟩
theorem ivs_range (F:Nat→Itm) : ∀n i,i<n→(ivs ((List.range n).map F))[2*i]?=some (.int .u64 ((F i).1.toNat:Int))∧(ivs ((List.range n).map F))[2*i+1]?=some (.int .u64 ((F i).2.toNat:Int)):=fun n i hi=>by
 have h1:=ivs_key ((List.range n).map F) i (by simpa using hi)
 have h2:=ivs_val ((List.range n).map F) i (by simpa using hi)
 simp only [List.getElem_map,List.getElem_range] at h1 h2
 exact ⟨h1,h2⟩
theorem came_items {d:DataW H} {p:List MemPlace} (A:Option Addr) (len cap:Nat) (h:DataW.Trod enc Tryz.prog W 0 (fun _=>true) true 83 (.slice A len cap) d p) :
  ∃l,IRow W A len cap l:=by
 obtain ⟨fuel,hf⟩:=h
 rcases Go.Deep.open_slice Tryz.underlying83 hf with ⟨hcs,_⟩ | ⟨a,len',cap',m,n,D,Pl,hcs,hb,hl,hm,hmm,hx,hi⟩
 ·simp [Value.cells] at hcs
  obtain ⟨rfl,rfl,rfl⟩:=hcs
  exact ⟨[],rfl,Nat.le_refl _,Nat.zero_le _,.inl rfl⟩
 ·simp [Value.cells] at hcs
  obtain ⟨rfl,rfl,rfl⟩:=hcs
  rw [if_pos rfl] at hmm
  subst hmm
  have each : ∀i,i<m → ∃x:Itm,∀j (hj:j<2),W.cell? ((a.add (i*2)).add j) = [Value.int .u64 (x.1.toNat:Int),.int .u64 (x.2.toNat:Int)][j]?:=fun i him=>by
   obtain ⟨cs',hc,ht'⟩:=hi i him
   obtain ⟨x,rfl⟩:=came_item ht'
   rw [cellsItem] at hc
   obtain ⟨_,hcl,hat⟩:=World.cells?_some hc
   exact ⟨x,fun j hj=>hat j hj⟩
  obtain ⟨F,hF⟩ : ∃F:Nat→Itm,∀i,i<len → ∀j (hj:j<2),W.cell? ((a.add (i*2)).add j) = [Value.int .u64 ((F i).1.toNat:Int),.int .u64 ((F i).2.toNat:Int)][j]? :=
   ⟨fun i=>if h:i<m then (each i h).choose else (0,0),fun i h=>by
    have h':i<m:=by omega
    simp only [h',dif_pos]
    exact (each i h').choose_spec⟩
  refine ⟨(List.range len).map F,by simp,hl,hm,?_⟩
  rcases Nat.eq_zero_or_pos len with h0 | h0
  ·left; rw [h0]; rfl
  ·have h1:=hF 0 (by omega) 0 (by omega)
   obtain ⟨b,o,spot⟩:=a
   have hspot:spot=none:=by simpa [Addr.add] using World.cell?_spot h1
   subst hspot
   refine .inr ⟨b,o,rfl,fun k hk => ?_⟩
   rw [length_ivs,List.length_map,List.length_range] at hk
   have ha : ∀i j,((Addr.mk b o none).add (i*2)).add j=⟨b,o+i*2+j,none⟩:=fun i j=>by rw [Oct.add_plain,Oct.add_plain]
   have hr:=ivs_range F len (k/2) (by omega)
   have h2:=hF (k/2) (by omega)
   rcases (show k=2*(k/2)∨k=2*(k/2)+1 by omega) with e | e
   ·have h3:=h2 0 (by omega)
    rw [ha] at h3
    have h4:=hr.1
    rw [← e,List.getElem?_eq_getElem (by rw [length_ivs,List.length_map,List.length_range]; omega)] at h4
    rw [show o+k=o+k/2*2+0 by omega,Option.some.inj h4]
    simpa using h3
   ·have h3:=h2 1 (by omega)
    rw [ha] at h3
    have h4:=hr.2
    rw [← e,List.getElem?_eq_getElem (by rw [length_ivs,List.length_map,List.length_range]; omega)] at h4
    rw [show o+k=o+k/2*2+1 by omega,Option.some.inj h4]
    simpa using h3
end
theorem tot_small {n:Nat} (h:n≤200):tot n≤59:=by
 rcases Nat.lt_or_ge 7 n with k | k
 ·rw [tot_more k]
  have:=tot_le (manyN n)
  have:manyN n≤29:=by unfold manyN; omega
  omega
 ·rw [tot_one k]; omega
theorem upH_small {n:Nat} (h:n≤343):upH n≤3:=by
 rcases Nat.lt_or_ge 7 n with k | k
 ·rw [upH_more k]
  rcases Nat.lt_or_ge 7 ((n+6)/7) with q | q
  ·rw [upH_more q,upH_one (by omega)]; omega
  ·rw [upH_one q]; omega
 ·rw [upH_one k]; omega
def Wood (y:BS) (n:Nat) (l:List Itm) (root:Nat):Prop :=
 Fed n y∧((l = []∧root=0) ∨ ∃lv,Held y (root:Int)∧Tr (nodeR y n) (Held y) (min (lv+1) 2) lv (root:Int) l∧lv+1=upH l.length)
theorem down_zero (x:BS) (n:Nat) (key:UInt64):downR x n 0 key=⟨true,[],[],0,maxU,0⟩:=by
 unfold downR
 rw [if_pos rfl]
section
variable {y:BS} {n root:Nat} {l:List Itm}
theorem Wood.low (h:Wood y n l root):root<400:=by
 have h4:=h.1.hi
 rcases h.2 with ⟨_,e⟩ | ⟨_,hh,_⟩
 ·omega
 ·have:=hh.lt h.1; omega
theorem Wood.get (h:Wood y n l root) (hr:Ris l) (hl:l.length≤200) (k:UInt64):getF (downR y n (root:Int) k) k=((look l k).1,(look l k).2,0):=by
 rcases h.2 with ⟨rfl,rfl⟩ | ⟨lv,hh,ht,hu⟩
 ·rw [show ((0:Nat):Int)=0 from rfl,down_zero]
  exact fw_get0 k
 ·have:=hh.lt h.1
  have:=upH_small (n:=l.length) (by omega)
  exact (get_tr h.1 ht hr (by omega) (by omega) k).1
theorem Wood.high (h:Wood y n l root) (hr:Ris l) (hl:l.length≤200):(downR y n (root:Int) 0).high=hgt l.length∧(downR y n (root:Int) 0).e=0:=by
 rcases h.2 with ⟨rfl,rfl⟩ | ⟨lv,hh,ht,hu⟩
 ·rw [show ((0:Nat):Int)=0 from rfl,down_zero]
  exact ⟨rfl,rfl⟩
 ·have:=hh.lt h.1
  have h3:=upH_small (n:=l.length) (by omega)
  have hp:=ht.pos
  obtain ⟨_,e1,e2⟩:=get_tr h.1 ht hr (by omega) (by omega) 0
  refine ⟨?_,e2⟩
  rw [e1,hu]
  unfold hgt
  rw [if_neg (fun e=>hp (List.eq_nil_of_length_eq_zero e))]
theorem Wood.walk (h:Wood y n l root) (hr:Ris l) (hl:l.length≤200) (fr tt:UInt64) (most:Int) :
  (ranged l fr tt).map (fun p=>(p,0))=walkL (downR y n (root:Int)) tt 18446744073709551616 fr∧((ranged l fr tt).take most.toNat,0)=walkGo most [] ((ranged l fr tt).map (fun p=>(p,0))):=by
 have hg:walkGo most [] ((ranged l fr tt).map fun p=>(p,0))=((ranged l fr tt).take most.toNat,0):=by
  rw [go_take most (ranged l fr tt) [] (by
   by_cases h:most≤0
   ·exact .inl ⟨rfl,h⟩
   ·exact .inr (by show 0<most.toNat; omega))]
  rfl
 refine ⟨?_,hg.symm⟩
 rcases h.2 with ⟨rfl,rfl⟩ | ⟨lv,hh,ht,hu⟩
 ·rw [show ((0:Nat):Int)=0 from rfl,walkL_one (downR y n 0) tt fr _ (down_zero y n fr) rfl (by have:=tt.toNat_lt; show tt.toNat≤18446744073709551615; omega)]
  unfold leafRun runOn
  simp [ranged]
 ·have:=hh.lt h.1
  have h3:=upH_small (n:=l.length) (by omega)
  exact (walk_tr h.1 ht hr (by omega) (by omega) tt 18446744073709551616 fr (by omega)).symm
theorem Wood.right (h:Wood y n l root) (hr:Ris l) (hl:l.length≤200):true=rightR y n (root:Int):=by
 rcases h.2 with ⟨rfl,rfl⟩ | ⟨lv,hh,ht,hu⟩
 ·unfold rightR
  rw [show ((0:Nat):Int)=0 from rfl,down_zero]
  rfl
 ·have:=hh.lt h.1
  have h3:=upH_small (n:=l.length) (by omega)
  obtain ⟨_,e1,e2⟩:=get_tr h.1 ht hr (by omega) (by omega) 0
  unfold rightR
  rw [e1,if_neg (by omega)]
  exact (tr_right lv _ _ l 0 maxU ht hr fun p _=>⟨Nat.zero_le _,by have:=p.1.toNat_lt; show _≤18446744073709551615; omega⟩).symm
end
section
variable {Pr:Nat→Prop} {A:Adr} {y:BS} {w:World} {n root:Nat} {l:List Itm}
theorem wood_get (h:Wood y n l root) (hr:Ris l) (hl:l.length≤200) (ha:BAt Pr w A y) (k:UInt64) :
  Calls Tryz.prog 53 #[.pointer (some ⟨A.b,0,none⟩),.int .i64 (root:Int),.int .u64 (k.toNat:Int)] w fun e w'=>e = .returned (.tuple #[.int .u64 ((look l k).1.toNat:Int),.bool (look l k).2,.int .i64 0])∧Below w.heap.size w w' :=
 get_of root k _ (down_any h.1 ha root k (by have:=h.low; omega) _ rfl) ((look l k).1,(look l k).2,0) (h.get hr hl k).symm
theorem wood_high (h:Wood y n l root) (hr:Ris l) (hl:l.length≤200) (ha:BAt Pr w A y) :
  Calls Tryz.prog 56 #[.pointer (some ⟨A.b,0,none⟩),.int .i64 (root:Int)] w fun e w'=>e = .returned (.tuple #[.int .i64 (hgt l.length:Nat),.int .i64 0])∧Below w.heap.size w w':=by
 have:=height_of root _ (down_any h.1 ha root 0 (by have:=h.low; omega) _ rfl)
 rw [(h.high hr hl).1,(h.high hr hl).2] at this
 exact this
theorem wood_right (h:Wood y n l root) (hr:Ris l) (hl:l.length≤200) (ha:BAt Pr w A y) :
  Calls Tryz.prog 52 #[.pointer (some ⟨A.b,0,none⟩),.int .i64 (root:Int)] w fun e w'=>e = .returned (.bool true)∧Below w.heap.size w w' :=
 fright_is h.1 ha root (by have:=h.low; omega) true (h.right hr hl)
theorem wood_walk (h:Wood y n l root) (hr:Ris l) (hl:l.length≤200) (ha:BAt Pr w A y) (fr tt:UInt64) (most:Int) :
  Calls Tryz.prog 55 #[.pointer (some ⟨A.b,0,none⟩),.int .i64 (root:Int),.int .u64 (fr.toNat:Int),.int .u64 (tt.toNat:Int),.int .i64 most] w fun e w' =>
   ∃v,e = .returned (.tuple #[v,.int .i64 0])∧OwnJ w' w.heap.size v ((ranged l fr tt).take most.toNat)∧Below w.heap.size w w' :=
 walk_base h.1 ha root (by have:=h.low; omega) fr tt most _ (h.walk hr hl fr tt most).1 (.inr (by rw [List.length_map]; have:=ranged_len l fr tt; omega)) ((ranged l fr tt).take most.toNat,0) (h.walk hr hl fr tt most).2
theorem build_wood {z:Wk} (hz:Begun0 200 z) (h:BAt Pr w A (made0 200 z)) {LA:Option Addr} {N c:Nat} (hrow:IRow w LA N c l) (hN:N≤200) (hris:Ris l) (hsep : ∀b o,LA=some ⟨b,o,none⟩→b∉A.list) :
  Calls Tryz.prog 51 #[.pointer (some ⟨A.b,0,none⟩),.slice LA N c] w fun e w' => ∃(b:Nat) (y:BS),e = .returned (.tuple #[.int .i64 (b:Int),.bool true])∧Wood y 200 l b∧BAt Pr w' A y∧ButL w w' A.list:=by
 have hf:=made_fed (by omega) (by omega) hz
 rcases Nat.eq_zero_or_pos N with h0 | h0
 ·subst h0
  have hl:l = []:=List.eq_nil_of_length_eq_zero hrow.el
  have HA:=Lib.hid h
  have HW:=Lib.hid (show Wood (made0 200 z) 200 l 0 from ⟨hf,.inl ⟨hl,rfl⟩⟩)
  clear h hrow hf hz
  go_enter Tryz.func51,Tryz.ntmps51
  go_wp2_with fail
  go_ret2
  exact ⟨0,_,rfl,HW.out,HA.out,ButL.refl _ _⟩
 ·have hroom:=(made_room (by omega) (by omega) hz).1
  have hnn:=(made_room (by omega) (by omega) hz).2
  have h5:need 200=5:=by decide
  have ht:=tot_small hN
  refine (build_any hf h l hrow ⟨h0,hN⟩ (by rw [hnn]; omega) hris hsep).mono ?_
  rintro e w' ⟨b,rfl,y,lv,h1,h2,h3,h4,_,h6,h7⟩
  exact ⟨b,y,rfl,⟨h1,.inr ⟨lv,h2,h3,by rw [hrow.el]; exact h4⟩⟩,h6,h7⟩
end
end Go.Proofs.YtogchamogbendaaGreat.Bs
namespace Go.Proofs.YtogchamogbendaaGreat.Bs
open Lib (hid)
open Go.RowKit Oct Mv Tl Pk Pl Go.Maps Go.ChangeMaps
open Lf (Nd Fit nodePage RowN ToldN Rises)
open No (atR at_any)
set_option maxHeartbeats 4000000 in
theorem awake13b (w:World):Calls Tryz.prog 48 #[] w fun e w'=>e = .returned (.bool true)∧Below w.heap.size w w':=by
 go_enter Tryz.func48,Tryz.ntmps48
 go_wp2_with fail
 refine (show Calls Tryz.prog 49 #[.int .i64 40] w _ from base_made 40 (by omega) (by omega) w).mono ?_
 rintro e w1 ⟨A,y,rfl,hbg,hA,hat,B1⟩
 have hy:y=fY:=fw_y hbg
 subst hy
 have HA:=hid hA
 have HBG:=hid hbg
 have HF0:=hid (made_fed (by omega) (by omega) hbg)
 have H1:=hid hat
 have HB1:=hid B1
 clear hbg hA hat B1
 go_wp2_with fail
 have bl:=(Below.refl w1.heap.size w1).alloc (Nat.le_refl _) (.cells #[.int .u64 2,.int .u64 20,.int .u64 5,.int .u64 50] 104)
 have rl:=alloc_rowV w1 104 [.int .u64 2,.int .u64 20,.int .u64 5,.int .u64 50]
 have hir:IRow (w1.alloc (.cells #[.int .u64 2,.int .u64 20,.int .u64 5,.int .u64 50] 104)) (some ⟨w1.heap.size,0,none⟩) 2 2 [(2,20),(5,50)]:=⟨rfl,Nat.le_refl _,by decide,(show HasV _ w1.heap.size 0 (ivs [(2,20),(5,50)]) from rl.has).told⟩
 refine (build_any HF0.out (H1.out.below bl) [(2,20),(5,50)] hir ⟨by decide,by decide⟩ (by rw [fw_room.2.1,fw_room.2.2,fw_room.1,tot_one (by decide)]; decide) (by unfold Ris; decide) (fun b o e hm=>by have:=H1.out.list_lt b hm; cases e; omega)).mono ?_
 rintro e w2 ⟨b,rfl,y9,lv9,_,_,_,_,hone,hat,hb⟩
 obtain ⟨hfd,rfl⟩:=hone (by decide)
 obtain rfl:b=4:=fw_found hfd
 have HX:=hid (fw1 HBG.out hfd)
 have HB2:=hid (lowb HA.out (HB1.out.trans (bl.mono HB1.out.size)) hb (Nat.le_refl _))
 have H2:=hid (show BAt _ w2 A ((made0 40 fY).put 4 (nodePage true [2,5] [20,50])) from hat)
 generalize (made0 40 fY).put 4 (nodePage true [2,5] [20,50])=x1 at *
 clear hfd hat hb bl rl hir H1 HB1 HF0 HBG
 go_wp2_with fail
 refine (show Calls Tryz.prog 52 #[.pointer (some ⟨A.b,0,none⟩),.int .i64 0] w2 (fun e w'=>e = .returned (.bool true)∧Below (World.heap w2).size w2 w') from fright_is HX.out.fed H2.out 0 (by omega) true fw_right0.symm).mono ?_
 rintro e w3 ⟨rfl,kz⟩
 have H3:=hid (H2.out.below kz)
 have HB3:=hid (HB2.out.trans (kz.mono HB2.out.size))
 clear kz H2 HB2
 go_wp2_with fail
 refine (show Calls Tryz.prog 52 #[.pointer (some ⟨A.b,0,none⟩),.int .i64 4] w3 (fun e w'=>e = .returned (.bool true)∧Below (World.heap w3).size w3 w') from fright_is HX.out.fed H3.out 4 (by omega) true (fw_right HX.out.node).symm).mono ?_
 rintro e w4 ⟨rfl,kz⟩
 have H4:=hid (H3.out.below kz)
 have HB4:=hid (HB3.out.trans (kz.mono HB3.out.size))
 clear kz H3 HB3
 go_wp2_with fail
 refine (show Calls Tryz.prog 53 #[.pointer (some ⟨A.b,0,none⟩),.int .i64 4,.int .u64 5] w4 (fun e w'=>e = .returned (.tuple #[.int .u64 50,.bool true,.int .i64 0])∧Below (World.heap w4).size w4 w') from get_of 4 5 leafW (down_any HX.out.fed H4.out 4 5 (by omega) leafW (fw_down HX.out.node 5).symm) (50,true,0) fw_get.symm).mono ?_
 rintro e w5 ⟨rfl,kz⟩
 have H5:=hid (H4.out.below kz)
 have HB5:=hid (HB4.out.trans (kz.mono HB4.out.size))
 clear kz H4 HB4
 go_wp2_with fail
 refine (show Calls Tryz.prog 55 #[.pointer (some ⟨A.b,0,none⟩),.int .i64 4,.int .u64 0,.int .u64 9,.int .i64 9] w5 (fun e w' => ∃v,e = .returned (.tuple #[v,.int .i64 0])∧OwnJ w' w5.heap.size v [(2,20),(5,50)]∧Below w5.heap.size w5 w') from walk_base HX.out.fed H5.out 4 (by omega) 0 9 9 (([(2,20),(5,50)]:List Itm).map (fun p=>(p,0))) (by rw [walkL_one (downR x1 40 4) 9 0 leafW (fw_down HX.out.node 0) rfl (by decide),fw_run1]) (.inl (by decide)) ([(2,20),(5,50)],0) (by decide)).mono ?_
 rintro e w6 ⟨va,rfl,ho,kz⟩
 have H6:=hid (H5.out.below kz)
 have HB6:=hid (HB5.out.trans (kz.mono HB5.out.size))
 have HLa:=hid (show OwnJ w6 w5.heap.size va [(2,20),(5,50)] ∧ ∀j∈A.list,j<w5.heap.size from ⟨ho,H5.out.list_lt⟩)
 obtain ⟨ga,ca,rfl⟩:=ownsRow_succ (k:=1) ho
 have HKa:=hid (ButL.refl w6 A.list)
 clear kz ho H5 HB5
 go_wp2_with fail
 refine (show Calls Tryz.prog 55 #[.pointer (some ⟨A.b,0,none⟩),.int .i64 4,.int .u64 3,.int .u64 9,.int .i64 9] w6 (fun e w' => ∃v,e = .returned (.tuple #[v,.int .i64 0])∧OwnJ w' w6.heap.size v [(5,50)]∧Below w6.heap.size w6 w') from walk_base HX.out.fed H6.out 4 (by omega) 3 9 9 (([(5,50)]:List Itm).map (fun p=>(p,0))) (by rw [walkL_one (downR x1 40 4) 9 3 leafW (fw_down HX.out.node 3) rfl (by decide),fw_run2]) (.inl (by decide)) ([(5,50)],0) (by decide)).mono ?_
 rintro e w7 ⟨vb,rfl,ho,kz⟩
 have H7:=hid (H6.out.below kz)
 have HB7:=hid (HB6.out.trans (kz.mono HB6.out.size))
 have HLb:=hid (show OwnJ w7 w6.heap.size vb [(5,50)] ∧ ∀j∈A.list,j<w6.heap.size from ⟨ho,H6.out.list_lt⟩)
 obtain ⟨gb,cb,rfl⟩:=ownsRow_succ (k:=0) ho
 have HKa:=hid (HKa.out.trans (ButL.of_below A.list kz (Nat.le_refl _)))
 have HKb:=hid (ButL.refl w7 A.list)
 clear kz ho H6 HB6
 go_wp2_with fail
 refine (show Calls Tryz.prog 56 #[.pointer (some ⟨A.b,0,none⟩),.int .i64 4] w7 (fun e w'=>e = .returned (.tuple #[.int .i64 1,.int .i64 0])∧Below (World.heap w7).size w7 w') from height_of 4 leafW (down_any HX.out.fed H7.out 4 0 (by omega) leafW (fw_down HX.out.node 0).symm)).mono ?_
 rintro e w8 ⟨rfl,kz⟩
 have H8:=hid (H7.out.below kz)
 have HB8:=hid (HB7.out.trans (kz.mono HB7.out.size))
 have HKa:=hid (HKa.out.trans (ButL.of_below A.list kz (Nat.le_refl _)))
 have HKb:=hid (HKb.out.trans (ButL.of_below A.list kz (Nat.le_refl _)))
 clear kz H7 HB7
 go_wp2_with fail
 refine (show Calls Tryz.prog 53 #[.pointer (some ⟨A.b,0,none⟩),.int .i64 0,.int .u64 5] w8 (fun e w'=>e = .returned (.tuple #[.int .u64 0,.bool false,.int .i64 0])∧Below (World.heap w8).size w8 w') from get_of 0 5 ⟨true,[],[],0,maxU,0⟩ (down_any HX.out.fed H8.out 0 5 (by omega) _ (fw_zero 5).symm) (0,false,0) (fw_get0 5).symm).mono ?_
 rintro e w9 ⟨rfl,kz⟩
 have H9:=hid (H8.out.below kz)
 have HB9:=hid (HB8.out.trans (kz.mono HB8.out.size))
 have HKa:=hid (HKa.out.trans (ButL.of_below A.list kz (Nat.le_refl _)))
 have HKb:=hid (HKb.out.trans (ButL.of_below A.list kz (Nat.le_refl _)))
 clear kz H8 HB8
 go_wp2_with fail
 have b1:=(Below.refl w9.heap.size w9).alloc (Nat.le_refl _) (.cells #[.int .u64 0,.int .u64 5] 30)
 have r1:=alloc_rowV w9 30 [.int .u64 0,.int .u64 5]
 have s1:(w9.alloc (.cells #[.int .u64 0,.int .u64 5] 30)).heap.size=w9.heap.size+1:=World.size_alloc ..
 have b2:=(Below.refl (w9.alloc (.cells #[.int .u64 0,.int .u64 5] 30)).heap.size (w9.alloc (.cells #[.int .u64 0,.int .u64 5] 30))).alloc (Nat.le_refl _) (.cells #[.int .u64 4,.int .u64 9] 30)
 have r2:=alloc_rowV (w9.alloc (.cells #[.int .u64 0,.int .u64 5] 30)) 30 [.int .u64 4,.int .u64 9]
 rw [s1] at r2 b2
 have r1b:=r1.below (by omega) b2
 have b12:=b1.trans (b2.mono (by omega))
 have hnd:Nd ((w9.alloc (.cells #[.int .u64 0,.int .u64 5] 30)).alloc (.cells #[.int .u64 4,.int .u64 9] 30)) (some ⟨w9.heap.size,0,none⟩) 2 2 (some ⟨w9.heap.size+1,0,none⟩) 2 2 [0,5] [4,9]:=⟨rfl,rfl,Nat.le_refl _,by decide,Nat.le_refl _,by decide,.inr ⟨_,_,rfl,fun i hi=>by
  match i,hi with
  | 0,_=>exact r1b.cellAt (i:=0) rfl
  | 1,_=>exact r1b.cellAt (i:=1) rfl⟩,.inr ⟨_,_,rfl,fun i hi=>by
  match i,hi with
  | 0,_=>exact r2.cellAt (i:=0) rfl
  | 1,_=>exact r2.cellAt (i:=1) rfl⟩⟩
 refine (put_law HX.out.fed (H9.out.below b12) HX.out.room false hnd fit_two).mono ?_
 rintro e w10 ⟨bb,rfl,hfd,hat,hb⟩
 have HY:=hid (fw2 HX.out hfd)
 have HB10:=hid (lowb HA.out (HB9.out.trans (b12.mono HB9.out.size)) hb (Nat.le_refl _))
 have H10:=hid (show BAt _ w10 A (x1.put bb (nodePage false [0,5] [4,9])) from hat)
 have HKa:=hid (HKa.out.trans ((ButL.of_below A.list b12 (Nat.le_refl _)).trans hb))
 have HKb:=hid (HKb.out.trans ((ButL.of_below A.list b12 (Nat.le_refl _)).trans hb))
 generalize x1.put bb (nodePage false [0,5] [4,9])=x2 at *
 clear b1 r1 s1 b2 r2 r1b b12 hnd hfd hat hb H9 HB9
 go_wp2_with fail
 refine (show Calls Tryz.prog 61 #[.pointer (some ⟨A.b,0,none⟩),.int .i64 2] w10 _ from fnode_any HY.out.fed H10.out 2 ⟨false,[],[],130⟩ HY.out.two.symm).mono ?_
 rintro e w11 ⟨KK,kk,VV,vv,rfl,_,kz,_,_⟩
 have al:=(Below.refl w11.heap.size w11).alloc (Nat.le_refl _) (.cells #[.bool false,.slice KK 0 kk,.slice VV 0 vv] 107)
 have BB:=kz.trans (al.mono kz.size)
 have H11:=hid (H10.out.below BB)
 have HB11:=hid (HB10.out.trans (BB.mono HB10.out.size))
 have hkb:=HKb.out.trans (ButL.of_below A.list BB (Nat.le_refl _))
 have hob:=World.ownsRow.cellAt HLb.out.1 0 (by decide)
 have hbl:=(HLb.out.1.lt (k:=gb) rfl)
 have cb:(w11.alloc (.cells #[.bool false,.slice KK 0 kk,.slice VV 0 vv] 107)).cell? ⟨gb,0,none⟩=some (.int .u64 5):=(World.cell?_of_block (a:=⟨gb,0,none⟩) (hkb.block gb hbl.2 (fun q=>by have:=HLb.out.2 gb q; omega))).trans (hob.trans rfl)
 have hbp:((bb:Nat):Int)<40∧(0:Int)≤(bb:Int):=by have:=HY.out.pos.2; omega
 clear kz al BB hkb hob hbl
 go_wp2_with fail
 refine (show Calls Tryz.prog 52 #[.pointer (some ⟨A.b,0,none⟩),.int .i64 (bb:Int)] _ (fun e w'=>e = .returned (.bool false)∧Below _ _ w') from fright_is HY.out.fed H11.out (bb:Int) (by omega) false (fw_wrong HY.out.top HY.out.node HY.out.pos.1).symm).mono ?_
 rintro e wz ⟨rfl,kz⟩
 go_wp2_with fail
 go_ret
 exact ⟨rfl,HB11.out.trans (kz.mono HB11.out.size)⟩
end Go.Proofs.YtogchamogbendaaGreat.Bs
namespace Go.Proofs.YtogchamogbendaaGreat.Bs
open Lib (hid)
open Go.RowKit Oct Mv Tl Pk Pl Go.Maps Go.ChangeMaps
open Lf (Nd Fit nodePage RowN ToldN Rises CameN)
theorem IRow.below {w w':World} {A:Option Addr} {n c:Nat} {l:List Itm} (h:IRow w A n c l) (k:Below w.heap.size w w'):IRow w' A n c l:=⟨h.el,h.kc,h.km,h.es.below k⟩
theorem IRow.but {w w':World} {A:Option Addr} {n c:Nat} {l:List Itm} {L:List Nat} (h:IRow w A n c l) (k:ButL w w' L) (hn : ∀b o,A=some ⟨b,o,none⟩→b∉L):IRow w' A n c l:=by
 refine ⟨h.el,h.kc,h.km,?_⟩
 rcases h.es with q | ⟨b,o,e,hh⟩
 ·exact .inl q
 ·rcases Nat.eq_zero_or_pos (ivs l).length with q | q
  ·exact .inl (List.eq_nil_of_length_eq_zero q)
  ·exact .inr ⟨b,o,e,hh.block (k.block b (hh.lt q) (hn b o e))⟩
set_option maxHeartbeats 4000000 in
theorem ftells_walk (A:Option Addr) (n c:Nat) (l:List Itm) (A1:Option Addr) (n1 c1:Nat) (ks:List UInt64) (fn tn most:Int) (w:World) (h:IRow w A n c l) (hk:CameN w A1 n1 c1 ks) (hfn:(Lit.int .u64 fn).wf=true) (htn:(Lit.int .u64 tn).wf=true) (hm:(Lit.int .i64 most).wf=true) :
  Calls Tryz.prog 7 #[.slice A n c,.slice A1 n1 c1,.int .u64 fn,.int .u64 tn,.int .i64 most] w fun e w'=>e = .returned (.bool true)∧Below w.heap.size w w':=by
 obtain ⟨fr,rfl⟩:=u64_of hfn
 obtain ⟨tt,rfl⟩:=u64_of htn
 have H:=hid h
 have HK:=hid hk
 have hnc:=h.kc
 have hcm:=h.km
 have hn1:=hk.le
 have hc1:=hk.hcap
 unfold maxLen at hcm hc1
 clear h hk hfn htn hm
 go_enter Tryz.func7,Tryz.ntmps7
 by_cases hbig:200<n
 ·have hbi:(200:Int)<(n:Int):=by omega
  go_wp2_with fail
  refine (awake13b w).mono ?_
  rintro e w1 ⟨rfl,kz⟩
  go_wp2_with fail
  go_ret
  exact ⟨rfl,kz⟩
 ·have hbi : ¬(200:Int)<(n:Int):=by omega
  go_wp2_with fail
  refine (show Calls Tryz.prog 49 #[.int .i64 200] w _ from base_made 200 (by omega) (by omega) w).mono ?_
  rintro e w1 ⟨B,z,rfl,hbg,hB,hat,k1⟩
  have HBG:=hid hbg
  have HB:=hid hB
  have HAT:=hid hat
  have K1:=hid k1
  clear hbg hB hat k1
  go_wp2_with fail
  refine (rising_any (H.out.below K1.out) (by omega) (risingF l) rfl).mono ?_
  rintro e w2 ⟨v,rfl,ho,k2⟩
  obtain ⟨G,cap,rfl,hg,_⟩:=ho.slice
  have hgl:=risingF_len l
  have HRI:=hid (risingF_ris l)
  have hll:=H.out.el
  obtain ⟨N,hN⟩ : ∃N,N=(risingF l).length:=⟨_,rfl⟩
  rw [← hN] at hg hgl ⊢
  have HAL:=hid hN.symm
  have HG2:=hid hg
  have hNb:N≤200:=by omega
  have hNc:=hg.kc
  have hcm2:=hg.km
  unfold maxLen at hcm2
  have HSEP:=hid (show ∀b o,G=some ⟨b,o,none⟩→b∉B.list from fun b o e hmm=>by
   subst e
   have h1:=(ho.lt (k:=b) rfl).1
   have h2:=HAT.out.list_lt b hmm
   omega)
  have K2:=hid (K1.out.trans (k2.mono K1.out.size))
  have HAT2:=hid (HAT.out.below k2)
  clear ho hg k2 hN hgl hll
  generalize risingF l=al at *
  go_wp2_with fail
  refine (build_wood HBG.out HAT2.out HG2.out hNb HRI.out HSEP.out).mono ?_
  rintro e w3 ⟨root,y,rfl,hw,hat3,hb3⟩
  have HWD:=hid hw
  have HAT3:=hid hat3
  have HG3:=hid (HG2.out.but hb3 HSEP.out)
  have K3:=hid (lowb HB.out K2.out hb3 (Nat.le_refl _))
  have HN200:=hid (show al.length≤200 by rw [HAL.out]; exact hNb)
  clear hw hat3 hb3
  go_wp2_with fail
  refine (wood_right HWD.out HRI.out HN200.out HAT3.out).mono ?_
  rintro e w4 ⟨rfl,k4⟩
  have HAT4:=hid (HAT3.out.below k4)
  have HG4:=hid (HG3.out.below k4)
  have K4:=hid (K3.out.trans (k4.mono K3.out.size))
  clear k4
  obtain ⟨m,hm⟩ : ∃m:Nat,m=min n1 10:=⟨_,rfl⟩
  have hm2:m≤n1∧m≤10:=by omega
  have hmin:min (n1:Int) 10=(m:Int):=by omega
  clear hm
  go_wp2_with fail
  go_loopw [61] (fun i wr => ∃k:Nat,k≤m∧i = .int .i64 (k:Int)∧Hid (Below w4.heap.size w4 wr)) (fun i _=>m-(Go.RowKit.intOf i).toNat)
  case atStart=>exact ⟨0,Nat.zero_le _,rfl,hid (Below.refl _ _)⟩
  case round =>
   obtain ⟨k,hk,rfl,HBr⟩:=hrel
   have HATr:=hid (HAT4.out.below HBr.out)
   have HGr:=hid (HG4.out.below HBr.out)
   have Kr:=hid (K4.out.trans (HBr.out.mono K4.out.size))
   by_cases hlt:k<m
   ·have hkl:k<ks.length:=by rw [HK.out.hlen]; omega
    obtain ⟨bk,ok,rfl,hkk⟩:=HK.out.told.has (by omega)
    have ck:=(Kr.out.cell (World.block_lt_of_cell? w _ (hkk k hkl))).trans (hkk k hkl)
    have hki:(k:Int)<(m:Int):=by omega
    clear hkk
    generalize ks[k]=key at ck
    go_wp2_with fail
    refine (wood_get HWD.out HRI.out HN200.out HATr.out key).mono ?_
    rintro e wa ⟨rfl,ka⟩
    have HGa:=hid (HGr.out.below ka)
    have HBa:=hid (HBr.out.trans (ka.mono HBr.out.size))
    clear ka ck
    go_wp2_with fail
    refine (rget_any HGa.out key (look al key) rfl).mono ?_
    rintro e wb ⟨rfl,kb⟩
    have HBb:=hid (HBa.out.trans (kb.mono HBa.out.size))
    clear kb
    go_wp2_with fail
    go_roundw
    case rel=>exact ⟨k+1,by omega,by go_num,HBb⟩
    case measure=>simp [Go.RowKit.intOf]; omega
   ·have hki : ¬(k:Int)<(m:Int):=by omega
    go_wp2_with fail
    refine (wood_walk HWD.out HRI.out HN200.out HATr.out fr tt most).mono ?_
    rintro e wa ⟨va,rfl,ho,ka⟩
    obtain ⟨Ga,ca,rfl,hga,_⟩:=ho.slice
    obtain ⟨r,hr⟩ : ∃r,r=(ranged al fr tt).take most.toNat:=⟨_,rfl⟩
    rw [← hr] at hga ⊢
    have HR:=hid hr
    obtain ⟨na,hna⟩ : ∃x,x=r.length:=⟨_,rfl⟩
    rw [← hna] at hga ⊢
    have HGA:=hid hga
    have HATa:=hid (HATr.out.below ka)
    have HGa:=hid (HGr.out.below ka)
    have Ka:=hid (Kr.out.trans (ka.mono Kr.out.size))
    clear ka hr hna hga ho
    go_wp2_with fail
    refine (wood_high HWD.out HRI.out HN200.out HATa.out).mono ?_
    rintro e wb ⟨rfl,kb⟩
    rw [HAL.out]
    have HGAb:=hid (HGA.out.below kb)
    have HGb:=hid (HGa.out.below kb)
    have Kb:=hid (Ka.out.trans (kb.mono Ka.out.size))
    clear kb
    go_wp2_with fail
    refine (ritems_any HGb.out (by omega) fr tt most r HR.out).mono ?_
    rintro e wd ⟨vd,rfl,ho,kd⟩
    obtain ⟨Gd,cd,rfl,hgd,_⟩:=ho.slice
    have HGD:=hid hgd
    have HGAd:=hid (HGAb.out.below kd)
    have Kd:=hid (Kb.out.trans (kd.mono Kb.out.size))
    clear kd ho hgd
    go_wp2_with fail
    refine (same_items HGAd.out HGD.out).mono ?_
    rintro e we ⟨rfl,ke⟩
    rw [decide_eq_true (rfl:r=r)]
    have Ke:=hid (Kd.out.trans (ke.mono Kd.out.size))
    clear ke
    go_wp2_with fail
    refine (rheight_any N (by omega) _).mono ?_
    rintro e wf ⟨rfl,rfl⟩
    go_wp2_with fail
    refine (awake13b _).mono ?_
    rintro e wg ⟨rfl,kg⟩
    go_wp2_with fail
    go_ret
    exact ⟨rfl,Ke.out.trans (kg.mono Ke.out.size)⟩
end Go.Proofs.YtogchamogbendaaGreat.Bs
