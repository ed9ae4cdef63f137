import Derived.BigQuiet
import Derived.Maps.AppendAt
import Derived.Test.YtogchamogbendaaGreatQtz
import Derived.Test.YtogchamogbendaaGreatQty
import Derived.Test.YtogchamogbendaaGreatQtB
import Derived.Test.YtogchamogbendaaGreatQtv
import Derived.Test.YtogchamogbendaaGreatQtg
set_option maxRecDepth 100000
set_option linter.unusedVariables false
set_option linter.unusedSimpArgs false
namespace Go.Proofs.YtogchamogbendaaGreat.Bs
open Lib (hid)
open Go.RowKit Oct Mv Tl Pk Pl Go.Maps Go.ChangeMaps
open Lf (Nd Fit nodePage RowN ToldN)
open No (atR at_any)
theorem kid_small {ks vs:List UInt64} (h:Fit false ks vs) {i:Nat} (hi:i<vs.length):(vs.getD i 0).toNat<4096:=by
 rcases h.2.2.2 with q | q
 ·cases q
 ·exact (q.2.1 _ (getD_mem' hi)).2
theorem all_upto {f:Nat→Bool} : ∀ {n:Nat},(∀i,i<n→f i=true)→(List.range n).all f=true:=fun {n} h=>by
 rw [List.all_eq_true]
 intro i hi
 exact h i (List.mem_range.1 hi)
theorem all_not {f:Nat→Bool} {n i:Nat} (hi:i<n) (h:f i=false):(List.range n).all f=false:=by
 rw [List.all_eq_false]
 exact ⟨i,List.mem_range.2 hi,by rw [h]; decide⟩
section
variable {Pr:Nat→Prop} {A:Adr} {x:BS}
set_option maxHeartbeats 4000000 in
theorem right_rec {n:Nat} (hf:Fed n x) : ∀(lv:Nat) {w:World} (h:BAt Pr w A x) (hlv:1≤lv∧lv≤8) (z:Int) (hz : -9223372036854775808≤z∧z≤9223372036854775807) (f:Nat) (h7:1≤f∧f≤7) (fr tt:UInt64) (r:Bool) (hr:r=rightF x n lv z f fr tt),
  Calls Tryz.prog 116 #[.pointer (some ⟨A.b,0,none⟩),.int .i64 z,.agg #[.int .i64 (lv:Int),.int .i64 (f:Int),.int .u64 (fr.toNat:Int),.int .u64 (tt.toNat:Int)]] w fun e w'=>e = .returned (.bool r)∧Below w.heap.size w w':=by
 intro lv
 induction lv with
 | zero=>intro w h hlv; omega
 | succ lv ih =>
 intro w h hlv z hz f h7 fr tt r hr
 have IH:=hid (fun (w:World) (h:BAt Pr w A x)=>ih h)
 clear ih
 have HF:=hid hf
 obtain ⟨u,hu⟩ : ∃u,u=nodeR x n z:=⟨_,rfl⟩
 have HU:=hid hu
 have HR:=hid (show r=(decide (u.e=0)&&(fitsR u.l u.ks (lv+1) f fr tt&&(u.l||(List.range u.vs.length).all fun i=>rightF x n lv (IntKind.i64.wrap ((u.vs.getD i 0).toNat:Int)) 3 (u.ks.getD i 0) (lastR u.ks i tt)))) by rw [hr,hu]; rfl)
 have hl8:lv+1≤8:=hlv.2
 have r0:=alloc_rowV w 187 [.int .i64 ((lv+1:Nat):Int),.int .i64 (f:Int),.int .u64 (fr.toNat:Int),.int .u64 (tt.toNat:Int)]
 have b0:=(Below.refl w.heap.size w).alloc (Nat.le_refl _) (.cells #[.int .i64 ((lv+1:Nat):Int),.int .i64 (f:Int),.int .u64 (fr.toNat:Int),.int .u64 (tt.toNat:Int)] 187)
 have H0:=hid (h.below b0)
 obtain ⟨m,hm⟩ : ∃m,m=lv+1:=⟨_,rfl⟩
 rw [← hm] at HR hl8 r0 b0 H0 ⊢
 have HM:=hid hm
 clear hr hu h hf hm hlv
 go_enter Tryz.func116,Tryz.ntmps116
 go_upto_region 1 with (fail)
 obtain ⟨X5,hX5⟩ : ∃X,X=w.heap.size:=⟨_,rfl⟩
 have R0:=hid r0
 have HB0:=hid b0
 rw [← hX5] at R0 ⊢
 have HX5:=hid hX5
 clear r0 b0 hX5
 simp only [List.toArray] at *
 generalize w.alloc (.cells #[.int .i64 (m:Int),.int .i64 (f:Int),.int .u64 (fr.toNat:Int),.int .u64 (tt.toNat:Int)] 187)=w1 at *
 go_wp2_with fail
 refine (fnode_any HF.out H0.out z u HU.out).mono ?_
 rintro e w2 ⟨K,k,V,v,rfl,hnd,B2,nK,nV⟩
 have HB2:=hid (HB0.out.trans (B2.mono HB0.out.size))
 have R2:=hid (R0.out.below R0.out.lt B2)
 have H2:=hid (H0.out.below B2)
 have r3:=alloc_rowV w2 107 [.bool u.l,.slice K u.ks.length k,.slice V u.vs.length v]
 have b3:=(Below.refl w2.heap.size w2).alloc (Nat.le_refl _) (.cells #[.bool u.l,.slice K u.ks.length k,.slice V u.vs.length v] 107)
 have HN:=hid hnd
 clear B2 R0 H0 hnd nK nV
 go_upto_region 2 with (fail)
 obtain ⟨X7,hX7⟩ : ∃X,X=w2.heap.size:=⟨_,rfl⟩
 have R7:=hid r3
 have HB3:=hid (HB2.out.trans (b3.mono HB2.out.size))
 have R5:=hid (R2.out.below R2.out.lt b3)
 have HND:=hid (HN.out.below b3)
 have H3:=hid (H2.out.below b3)
 rw [← hX7] at R7 ⊢
 clear r3 b3 hX7 HB2 R2 HN H2
 simp only [List.toArray] at *
 generalize w2.alloc (.cells #[.bool u.l,.slice K u.ks.length k,.slice V u.vs.length v] 107)=w3 at *
 by_cases he:u.e=0
 ·have hfit:Fit u.l u.ks u.vs:=by rw [HU.out]; exact nodeR_fit (by rw [← HU.out]; exact he)
  have HFT:=hid hfit
  have heb:((u.e:Nat):Int)=0:=by omega
  rw [heb]
  have c50:=R5.out.cellAt (i:=0) rfl
  have c51:=R5.out.cellAt (i:=1) rfl
  have c52:=R5.out.cellAt (i:=2) rfl
  have c53:=R5.out.cellAt (i:=3) rfl
  have c70:=R7.out.cellAt (i:=0) rfl
  have c71:=R7.out.cellAt (i:=1) rfl
  have c72:=R7.out.cellAt (i:=2) rfl
  go_wp2_with fail
  refine (fits_any u.l HND.out m f fr tt hl8 h7 hfit.1 _ rfl).mono ?_
  rintro e w4 ⟨rfl,B4⟩
  have HB4:=hid (HB3.out.trans (B4.mono HB3.out.size))
  have R5':=hid (R5.out.below R5.out.lt B4)
  have R7':=hid (R7.out.below R7.out.lt B4)
  have HN4:=hid (HND.out.below B4)
  have H4:=hid (H3.out.below B4)
  clear B4 HB3 R5 R7 HND H3 c50 c51 c52 c53 c70 c71 c72 hfit
  cases hft:fitsR u.l u.ks m f fr tt with
  | false =>
   go_wp2_with fail
   go_ret
   exact ⟨by rw [HR.out,hft,decide_eq_true he]; rfl,HB4.out⟩
  | true =>
   have HR2:=hid (show r=(u.l||(List.range u.vs.length).all fun i=>rightF x n lv (IntKind.i64.wrap ((u.vs.getD i 0).toNat:Int)) 3 (u.ks.getD i 0) (lastR u.ks i tt)) by rw [HR.out,hft,decide_eq_true he]; rfl)
   have HFS:=hid hft
   clear HR hft
   have c7:=R7'.out.cellAt (i:=0) rfl
   by_cases hl:u.l=true
   ·go_wp2_with fail
    go_ret
    exact ⟨by rw [HR2.out,hl]; rfl,HB4.out⟩
   ·have hlf:u.l=false:=by cases hq:u.l; rfl; exact absurd hq hl
    have HL2:=hid (show 1≤lv∧lv≤8 by
     have:=HFS.out
     unfold fitsR at this
     simp only [Bool.and_eq_true,decide_eq_true_eq] at this
     have h1:=this.1.1.1
     rw [hlf] at h1
     have h2 : ¬m=1:=fun q=>by rw [decide_eq_true q] at h1; cases h1
     have:=HM.out
     omega)
    have HFT0:=hid (show Fit false u.ks u.vs by rw [← hlf]; exact HFT.out)
    have HR3:=hid (show r=(List.range u.vs.length).all fun i=>rightF x n lv (IntKind.i64.wrap ((u.vs.getD i 0).toNat:Int)) 3 (u.ks.getD i 0) (lastR u.ks i tt) by rw [HR2.out,hlf]; rfl)
    have hvk:u.vs.length=u.ks.length:=HFT0.out.2.1
    have hk7:u.ks.length≤7:=HFT0.out.1
    have HVK:=hid (And.intro hvk hk7)
    have c8:=R7'.out.cellAt (i:=2) rfl
    clear hl hvk hk7 HR2 HFS HFT
    go_wp2_with fail
    go_loopw [30] (fun i wr => ∃j:Nat,j≤u.vs.length∧i = .int .i64 (j:Int)∧(∀t,t<j→rightF x n lv (IntKind.i64.wrap ((u.vs.getD t 0).toNat:Int)) 3 (u.ks.getD t 0) (lastR u.ks t tt)=true)∧Hid (Below w4.heap.size w4 wr)) (fun i _=>u.vs.length-(Go.RowKit.intOf i).toNat)
    case atStart=>exact ⟨0,Nat.zero_le _,rfl,fun t ht=>absurd ht (Nat.not_lt_zero t),hid (Below.refl _ _)⟩
    case round =>
     obtain ⟨j,hj,rfl,hall,HBr⟩:=hrel
     have HALL:=hid hall
     clear hall
     by_cases hlt:j<u.vs.length
     ·have hji:(j:Int)<(u.vs.length:Int):=by omega
      have hj0:(0:Int)≤(j:Int):=by omega
      have HN5:=hid (HN4.out.below HBr.out)
      obtain ⟨bV,oV,eV,hV⟩ : ∃b o,V=some ⟨b,o,none⟩∧Lf.HasN wr b o u.vs:=by
       rcases HN5.out.vs with q | q
       ·rw [q] at hlt
        simp at hlt
       ·exact q
      subst eV
      have hcell:=hV j hlt
      obtain ⟨vv,hvv⟩ : ∃vv,vv=u.vs[j]:=⟨_,rfl⟩
      rw [← hvv] at hcell
      have HVV:=hid (show u.vs.getD j 0=vv from by rw [hvv,List.getD_eq_getElem?_getD,List.getElem?_eq_getElem hlt]; rfl)
      obtain ⟨bK,oK,eK,hK⟩ : ∃b o,K=some ⟨b,o,none⟩∧Lf.HasN wr b o u.ks:=by
       rcases HN5.out.ks with q | q
       ·have h1:=HVK.out.1
        have h2:u.ks.length=0:=by rw [q]; rfl
        omega
       ·exact q
      subst eK
      have hltk:j<u.ks.length:=by have:=HVK.out.1; omega
      obtain ⟨kk,hkk⟩ : ∃kk,kk=u.ks[j]:=⟨_,rfl⟩
      have HKK:=hid (And.intro (show u.ks.getD j 0=kk from by rw [hkk,List.getD_eq_getElem?_getD,List.getElem?_eq_getElem hltk]; rfl) hkk.symm)
      have HKC:=hid hK
      have HLT:=hid hltk
      clear hvv hV hkk hK
      go_upto_region 9 with (fail)
      clear hcell
      have R5r:=hid (R5'.out.below R5'.out.lt HBr.out)
      have R7r:=hid (show RowV wr X7 107 [.bool false,.slice (some ⟨bK,oK,none⟩) u.ks.length k,.slice (some ⟨bV,oV,none⟩) u.vs.length v] by
       have h:=R7'.out.below R7'.out.lt HBr.out
       rw [hlf] at h
       exact h)
      obtain ⟨kz7,hkz7⟩ : ∃q,q=rightF x n lv (IntKind.i64.wrap (vv.toNat:Int)) 3 kk (lastR u.ks j tt):=⟨_,rfl⟩
      have HQ:=hid (And.intro hkz7 (show kz7=rightF x n lv (IntKind.i64.wrap ((u.vs.getD j 0).toNat:Int)) 3 (u.ks.getD j 0) (lastR u.ks j tt) by rw [hkz7,HVV.out,HKK.out.1]))
      have HG1:=hid (show IntKind.i64.wrap ((m:Int)-1)=(lv:Int) by rw [HM.out,show ((lv+1:Nat):Int)-1=(lv:Int) by omega]; exact wrap_i64 (by omega) (by have:=HL2.out.2; omega))
      have HG2:=hid (show (j:Int)<(u.ks.length:Int)∧(0:Int)≤(j:Int)∧j<u.ks.length by omega)
      have HV4:=hid (show vv.toNat<4096 by rw [← HVV.out]; exact kid_small HFT0.out hlt)
      clear hkz7 hji hj0
      have Hr:=hid (H4.out.below HBr.out)
      refine Inv2.wp_region_inv (fun b a wy => ∃(zz:Nat→Value),a=⟨(List.toArray (Value.pointer (some ⟨A.b,0,none⟩) :: Value.int IntKind.i64 z :: Value.agg (Array.mk [Value.int IntKind.i64 ↑m,Value.int IntKind.i64 ↑f,Value.int IntKind.u64 ↑fr.toNat,Value.int IntKind.u64 ↑tt.toNat]) :: undef :: undef :: Value.pointer (some ⟨X5,0,none⟩) :: u6 :: Value.pointer (some ⟨X7,0,none⟩) :: Value.int IntKind.i64 0 :: Value.int IntKind.i64 ↑j :: Value.int IntKind.u64 ↑vv.toNat :: Value.tuple (Array.mk [Value.agg (Array.mk [Value.bool false,Value.slice (some ⟨bK,oK,none⟩) u.ks.length k,Value.slice (some ⟨bV,oV,none⟩) u.vs.length v]),Value.int IntKind.i64 0]) :: Value.pointer (some ⟨A.b,0,none⟩) :: Value.int IntKind.i64 z :: Value.tuple (Array.mk [Value.agg (Array.mk [Value.bool false,Value.slice (some ⟨bK,oK,none⟩) u.ks.length k,Value.slice (some ⟨bV,oV,none⟩) u.vs.length v]),Value.int IntKind.i64 0]) :: Value.agg (Array.mk [Value.bool false,Value.slice (some ⟨bK,oK,none⟩) u.ks.length k,Value.slice (some ⟨bV,oV,none⟩) u.vs.length v]) :: Value.int IntKind.i64 0 :: Value.int IntKind.i64 0 :: Value.bool false :: Value.bool false :: Value.agg #[Value.int IntKind.i64 ↑m,Value.int IntKind.i64 ↑f,Value.int IntKind.u64 ↑fr.toNat,Value.int IntKind.u64 ↑tt.toNat] :: Value.agg #[Value.bool false,Value.slice (some ⟨bK,oK,none⟩) u.ks.length k,Value.slice (some ⟨bV,oV,none⟩) u.vs.length v] :: Value.bool true :: Value.bool false :: Value.bool false :: Value.pointer (some ⟨X7,0,none⟩) :: Value.bool false :: Value.pointer (some ⟨X7,2,none⟩) :: Value.slice (some ⟨bV,oV,none⟩) u.vs.length v :: Value.int IntKind.i64 ↑u.vs.length :: Value.int IntKind.i64 ↑j :: Value.bool true :: Value.int IntKind.i64 ↑j :: Value.pointer (some ⟨bV,oV+j,none⟩) :: Value.int IntKind.u64 ↑vv.toNat :: (zz 35) :: (zz 36) :: (zz 37) :: (zz 38) :: (zz 39) :: (zz 40) :: (zz 41) :: (zz 42) :: (zz 43) :: (zz 44) :: (zz 45) :: (zz 46) :: (zz 47) :: (zz 48) :: (zz 49) :: (zz 50) :: (zz 51) :: (zz 52) :: (zz 53) :: u54 :: [])),[]⟩∧Hid ((b 0=true→(zz 35)=Value.pointer (some ⟨A.b,0,none⟩))∧(b 1=true→(zz 36)=Value.int IntKind.u64 ↑vv.toNat)∧(b 2=true→(zz 37) = .int .i64 (IntKind.i64.wrap (vv.toNat:Int)))∧(b 3=true→(zz 38) = .pointer (some ⟨X5,0,none⟩))∧(b 4=true→(zz 39) = .int .i64 (m:Int))∧(b 5=true→(zz 40) = .int .i64 (lv:Int))∧(b 6=true→(zz 41) = .pointer (some ⟨X7,1,none⟩))∧(b 7=true→(zz 42) = .slice (some ⟨bK,oK,none⟩) u.ks.length k)∧(b 8=true→(zz 43)=Value.int IntKind.i64 ↑j)∧(b 9=true→(zz 44) = .pointer (some ⟨bK,oK+j,none⟩))∧(b 10=true→(zz 45) = .int .u64 (kk.toNat:Int))∧(b 11=true→(zz 46) = .agg #[.bool false,.slice (some ⟨bK,oK,none⟩) u.ks.length k,.slice (some ⟨bV,oV,none⟩) u.vs.length v])∧(b 12=true→(zz 47)=Value.int IntKind.i64 ↑j)∧(b 13=true→(zz 48) = .pointer (some ⟨X5,3,none⟩))∧(b 14=true→(zz 49) = .int .u64 (tt.toNat:Int))∧(b 15=true→(zz 50) = .int .u64 ((lastR u.ks j tt).toNat:Int))∧(b 16=true→(zz 51) = .agg #[.int .i64 (lv:Int),.int .i64 3,.int .u64 (kk.toNat:Int),.int .u64 ((lastR u.ks j tt).toNat:Int)])∧(b 17=true→(zz 52) = .bool kz7)∧(b 18=true→(zz 53) = .bool (!kz7)))∧Hid (Below wr.heap.size wr wy)) (by kernel_rfl) (by kernel_rfl) ?startD ?stepsD ?doneD
      case startD =>
       intro b hb
       refine ⟨fun s=>if s=35 then u35 else if s=36 then u36 else if s=37 then u37 else if s=38 then u38 else if s=39 then u39 else if s=40 then u40 else if s=41 then u41 else if s=42 then u42 else if s=43 then u43 else if s=44 then u44 else if s=45 then u45 else if s=46 then u46 else if s=47 then u47 else if s=48 then u48 else if s=49 then u49 else if s=50 then u50 else if s=51 then u51 else if s=52 then u52 else if s=53 then u53 else undef,rfl,hid ⟨?_,?_,?_,?_,?_,?_,?_,?_,?_,?_,?_,?_,?_,?_,?_,?_,?_,?_,?_⟩,hid ((show Still wr wr.drew from ⟨rfl,rfl,rfl,rfl⟩).below _)⟩
       all_goals (intro e; first | rfl | (rw [hb _ (by decide)] at e; cases e))
      case stepsD =>
       refine ⟨?_,?_,?_,?_,?_,?_,?_,?_,?_,?_,?_,?_,?_,?_,?_,?_,?_,?_,?_,trivial⟩
       ·rintro b a wy hb hd ⟨zz,rfl,HV,HW⟩ K hK
        clear hd
        go_simp
        have V:=HV.out
        have V10:=V.2.2.2.2.2.2.2.2.2.2
        exact hK _ _ ⟨fun s=>if s=35 then Value.pointer (some ⟨A.b,0,none⟩) else zz s,rfl,hid ⟨fun _=>rfl,V.2.1,V.2.2.1,V.2.2.2.1,V.2.2.2.2.1,V.2.2.2.2.2.1,V.2.2.2.2.2.2.1,V.2.2.2.2.2.2.2.1,V.2.2.2.2.2.2.2.2.1,V.2.2.2.2.2.2.2.2.2.1,V10.1,V10.2.1,V10.2.2.1,V10.2.2.2.1,V10.2.2.2.2.1,V10.2.2.2.2.2.1,V10.2.2.2.2.2.2.1,V10.2.2.2.2.2.2.2.1,V10.2.2.2.2.2.2.2.2⟩,HW⟩
       ·rintro b a wy hb hd ⟨zz,rfl,HV,HW⟩ K hK
        clear hd
        go_simp
        have V:=HV.out
        have V10:=V.2.2.2.2.2.2.2.2.2.2
        exact hK _ _ ⟨fun s=>if s=36 then Value.int IntKind.u64 ↑vv.toNat else zz s,rfl,hid ⟨V.1,fun _=>rfl,V.2.2.1,V.2.2.2.1,V.2.2.2.2.1,V.2.2.2.2.2.1,V.2.2.2.2.2.2.1,V.2.2.2.2.2.2.2.1,V.2.2.2.2.2.2.2.2.1,V.2.2.2.2.2.2.2.2.2.1,V10.1,V10.2.1,V10.2.2.1,V10.2.2.2.1,V10.2.2.2.2.1,V10.2.2.2.2.2.1,V10.2.2.2.2.2.2.1,V10.2.2.2.2.2.2.2.1,V10.2.2.2.2.2.2.2.2⟩,HW⟩
       ·rintro b a wy hb hd ⟨zz,rfl,HV,HW⟩ K hK
        simp [Region.binds] at hd
        have e1:(zz 36)=Value.int IntKind.u64 ↑vv.toNat:=(HV.out.2.1) (by simp [hd])
        clear hd
        go_simp
        have V:=HV.out
        have V10:=V.2.2.2.2.2.2.2.2.2.2
        exact hK _ _ ⟨fun s=>if s=37 then .int .i64 (IntKind.i64.wrap (vv.toNat:Int)) else if s=36 then Value.int IntKind.u64 ↑vv.toNat else zz s,rfl,hid ⟨V.1,fun _=>rfl,fun _=>rfl,V.2.2.2.1,V.2.2.2.2.1,V.2.2.2.2.2.1,V.2.2.2.2.2.2.1,V.2.2.2.2.2.2.2.1,V.2.2.2.2.2.2.2.2.1,V.2.2.2.2.2.2.2.2.2.1,V10.1,V10.2.1,V10.2.2.1,V10.2.2.2.1,V10.2.2.2.2.1,V10.2.2.2.2.2.1,V10.2.2.2.2.2.2.1,V10.2.2.2.2.2.2.2.1,V10.2.2.2.2.2.2.2.2⟩,HW⟩
       ·rintro b a wy hb hd ⟨zz,rfl,HV,HW⟩ K hK
        clear hd
        go_simp
        have V:=HV.out
        have V10:=V.2.2.2.2.2.2.2.2.2.2
        exact hK _ _ ⟨fun s=>if s=38 then .pointer (some ⟨X5,0,none⟩) else zz s,rfl,hid ⟨V.1,V.2.1,V.2.2.1,fun _=>rfl,V.2.2.2.2.1,V.2.2.2.2.2.1,V.2.2.2.2.2.2.1,V.2.2.2.2.2.2.2.1,V.2.2.2.2.2.2.2.2.1,V.2.2.2.2.2.2.2.2.2.1,V10.1,V10.2.1,V10.2.2.1,V10.2.2.2.1,V10.2.2.2.2.1,V10.2.2.2.2.2.1,V10.2.2.2.2.2.2.1,V10.2.2.2.2.2.2.2.1,V10.2.2.2.2.2.2.2.2⟩,HW⟩
       ·rintro b a wy hb hd ⟨zz,rfl,HV,HW⟩ K hK
        simp [Region.binds] at hd
        have e3:(zz 38) = .pointer (some ⟨X5,0,none⟩):=(HV.out.2.2.2.1) (by simp [hd])
        clear hd
        have hrw:=R5r.out.below R5r.out.lt HW.out
        have q:=hrw.cellAt (i:=0) rfl
        clear hrw
        go_simp
        have V:=HV.out
        have V10:=V.2.2.2.2.2.2.2.2.2.2
        exact hK _ _ ⟨fun s=>if s=39 then .int .i64 (m:Int) else if s=38 then .pointer (some ⟨X5,0,none⟩) else zz s,rfl,hid ⟨V.1,V.2.1,V.2.2.1,fun _=>rfl,fun _=>rfl,V.2.2.2.2.2.1,V.2.2.2.2.2.2.1,V.2.2.2.2.2.2.2.1,V.2.2.2.2.2.2.2.2.1,V.2.2.2.2.2.2.2.2.2.1,V10.1,V10.2.1,V10.2.2.1,V10.2.2.2.1,V10.2.2.2.2.1,V10.2.2.2.2.2.1,V10.2.2.2.2.2.2.1,V10.2.2.2.2.2.2.2.1,V10.2.2.2.2.2.2.2.2⟩,HW⟩
       ·rintro b a wy hb hd ⟨zz,rfl,HV,HW⟩ K hK
        simp [Region.binds] at hd
        have e4:(zz 39) = .int .i64 (m:Int):=(HV.out.2.2.2.2.1) (by simp [hd])
        clear hd
        have g1:=HG1.out
        go_simp
        have V:=HV.out
        have V10:=V.2.2.2.2.2.2.2.2.2.2
        exact hK _ _ ⟨fun s=>if s=40 then .int .i64 (lv:Int) else if s=39 then .int .i64 (m:Int) else zz s,rfl,hid ⟨V.1,V.2.1,V.2.2.1,V.2.2.2.1,fun _=>rfl,fun _=>rfl,V.2.2.2.2.2.2.1,V.2.2.2.2.2.2.2.1,V.2.2.2.2.2.2.2.2.1,V.2.2.2.2.2.2.2.2.2.1,V10.1,V10.2.1,V10.2.2.1,V10.2.2.2.1,V10.2.2.2.2.1,V10.2.2.2.2.2.1,V10.2.2.2.2.2.2.1,V10.2.2.2.2.2.2.2.1,V10.2.2.2.2.2.2.2.2⟩,HW⟩
       ·rintro b a wy hb hd ⟨zz,rfl,HV,HW⟩ K hK
        clear hd
        go_simp
        have V:=HV.out
        have V10:=V.2.2.2.2.2.2.2.2.2.2
        exact hK _ _ ⟨fun s=>if s=41 then .pointer (some ⟨X7,1,none⟩) else zz s,rfl,hid ⟨V.1,V.2.1,V.2.2.1,V.2.2.2.1,V.2.2.2.2.1,V.2.2.2.2.2.1,fun _=>rfl,V.2.2.2.2.2.2.2.1,V.2.2.2.2.2.2.2.2.1,V.2.2.2.2.2.2.2.2.2.1,V10.1,V10.2.1,V10.2.2.1,V10.2.2.2.1,V10.2.2.2.2.1,V10.2.2.2.2.2.1,V10.2.2.2.2.2.2.1,V10.2.2.2.2.2.2.2.1,V10.2.2.2.2.2.2.2.2⟩,HW⟩
       ·rintro b a wy hb hd ⟨zz,rfl,HV,HW⟩ K hK
        simp [Region.binds] at hd
        have e6:(zz 41) = .pointer (some ⟨X7,1,none⟩):=(HV.out.2.2.2.2.2.2.1) (by simp [hd])
        clear hd
        have hrw:=R7r.out.below R7r.out.lt HW.out
        have q:=hrw.cellAt (i:=1) rfl
        clear hrw
        go_simp
        have V:=HV.out
        have V10:=V.2.2.2.2.2.2.2.2.2.2
        exact hK _ _ ⟨fun s=>if s=42 then .slice (some ⟨bK,oK,none⟩) u.ks.length k else if s=41 then .pointer (some ⟨X7,1,none⟩) else zz s,rfl,hid ⟨V.1,V.2.1,V.2.2.1,V.2.2.2.1,V.2.2.2.2.1,V.2.2.2.2.2.1,fun _=>rfl,fun _=>rfl,V.2.2.2.2.2.2.2.2.1,V.2.2.2.2.2.2.2.2.2.1,V10.1,V10.2.1,V10.2.2.1,V10.2.2.2.1,V10.2.2.2.2.1,V10.2.2.2.2.2.1,V10.2.2.2.2.2.2.1,V10.2.2.2.2.2.2.2.1,V10.2.2.2.2.2.2.2.2⟩,HW⟩
       ·rintro b a wy hb hd ⟨zz,rfl,HV,HW⟩ K hK
        clear hd
        go_simp
        have V:=HV.out
        have V10:=V.2.2.2.2.2.2.2.2.2.2
        exact hK _ _ ⟨fun s=>if s=43 then Value.int IntKind.i64 ↑j else zz s,rfl,hid ⟨V.1,V.2.1,V.2.2.1,V.2.2.2.1,V.2.2.2.2.1,V.2.2.2.2.2.1,V.2.2.2.2.2.2.1,V.2.2.2.2.2.2.2.1,fun _=>rfl,V.2.2.2.2.2.2.2.2.2.1,V10.1,V10.2.1,V10.2.2.1,V10.2.2.2.1,V10.2.2.2.2.1,V10.2.2.2.2.2.1,V10.2.2.2.2.2.2.1,V10.2.2.2.2.2.2.2.1,V10.2.2.2.2.2.2.2.2⟩,HW⟩
       ·rintro b a wy hb hd ⟨zz,rfl,HV,HW⟩ K hK
        simp [Region.binds] at hd
        have e7:(zz 42) = .slice (some ⟨bK,oK,none⟩) u.ks.length k:=(HV.out.2.2.2.2.2.2.2.1) (by simp [hd])
        have e8:(zz 43)=Value.int IntKind.i64 ↑j:=(HV.out.2.2.2.2.2.2.2.2.1) (by simp [hd])
        clear hd
        have g1:=HG2.out.1
        have g2:=HG2.out.2.1
        have g3:=HG2.out.2.2
        go_simp
        have V:=HV.out
        have V10:=V.2.2.2.2.2.2.2.2.2.2
        exact hK _ _ ⟨fun s=>if s=44 then .pointer (some ⟨bK,oK+j,none⟩) else if s=42 then .slice (some ⟨bK,oK,none⟩) u.ks.length k else if s=43 then Value.int IntKind.i64 ↑j else zz s,rfl,hid ⟨V.1,V.2.1,V.2.2.1,V.2.2.2.1,V.2.2.2.2.1,V.2.2.2.2.2.1,V.2.2.2.2.2.2.1,fun _=>rfl,fun _=>rfl,fun _=>rfl,V10.1,V10.2.1,V10.2.2.1,V10.2.2.2.1,V10.2.2.2.2.1,V10.2.2.2.2.2.1,V10.2.2.2.2.2.2.1,V10.2.2.2.2.2.2.2.1,V10.2.2.2.2.2.2.2.2⟩,HW⟩
       ·rintro b a wy hb hd ⟨zz,rfl,HV,HW⟩ K hK
        simp [Region.binds] at hd
        have e9:(zz 44) = .pointer (some ⟨bK,oK+j,none⟩):=(HV.out.2.2.2.2.2.2.2.2.2.1) (by simp [hd])
        clear hd
        have hcell:=(HKC.out.below (HKC.out.lt (by have:=HG2.out.2.2; omega)) HW.out) j HG2.out.2.2
        rw [show u.ks[j]'HG2.out.2.2=kk from HKK.out.2] at hcell
        go_simp
        have V:=HV.out
        have V10:=V.2.2.2.2.2.2.2.2.2.2
        exact hK _ _ ⟨fun s=>if s=45 then .int .u64 (kk.toNat:Int) else if s=44 then .pointer (some ⟨bK,oK+j,none⟩) else zz s,rfl,hid ⟨V.1,V.2.1,V.2.2.1,V.2.2.2.1,V.2.2.2.2.1,V.2.2.2.2.2.1,V.2.2.2.2.2.2.1,V.2.2.2.2.2.2.2.1,V.2.2.2.2.2.2.2.2.1,fun _=>rfl,fun _=>rfl,V10.2.1,V10.2.2.1,V10.2.2.2.1,V10.2.2.2.2.1,V10.2.2.2.2.2.1,V10.2.2.2.2.2.2.1,V10.2.2.2.2.2.2.2.1,V10.2.2.2.2.2.2.2.2⟩,HW⟩
       ·rintro b a wy hb hd ⟨zz,rfl,HV,HW⟩ K hK
        clear hd
        have hrw:=R7r.out.below R7r.out.lt HW.out
        have q0:=hrw.cellAt (i:=0) rfl
        have q1:=hrw.cellAt (i:=1) rfl
        have q2:=hrw.cellAt (i:=2) rfl
        clear hrw
        go_simp
        have V:=HV.out
        have V10:=V.2.2.2.2.2.2.2.2.2.2
        exact hK _ _ ⟨fun s=>if s=46 then .agg #[.bool false,.slice (some ⟨bK,oK,none⟩) u.ks.length k,.slice (some ⟨bV,oV,none⟩) u.vs.length v] else zz s,rfl,hid ⟨V.1,V.2.1,V.2.2.1,V.2.2.2.1,V.2.2.2.2.1,V.2.2.2.2.2.1,V.2.2.2.2.2.2.1,V.2.2.2.2.2.2.2.1,V.2.2.2.2.2.2.2.2.1,V.2.2.2.2.2.2.2.2.2.1,V10.1,fun _=>rfl,V10.2.2.1,V10.2.2.2.1,V10.2.2.2.2.1,V10.2.2.2.2.2.1,V10.2.2.2.2.2.2.1,V10.2.2.2.2.2.2.2.1,V10.2.2.2.2.2.2.2.2⟩,HW⟩
       ·rintro b a wy hb hd ⟨zz,rfl,HV,HW⟩ K hK
        clear hd
        go_simp
        have V:=HV.out
        have V10:=V.2.2.2.2.2.2.2.2.2.2
        exact hK _ _ ⟨fun s=>if s=47 then Value.int IntKind.i64 ↑j else zz s,rfl,hid ⟨V.1,V.2.1,V.2.2.1,V.2.2.2.1,V.2.2.2.2.1,V.2.2.2.2.2.1,V.2.2.2.2.2.2.1,V.2.2.2.2.2.2.2.1,V.2.2.2.2.2.2.2.2.1,V.2.2.2.2.2.2.2.2.2.1,V10.1,V10.2.1,fun _=>rfl,V10.2.2.2.1,V10.2.2.2.2.1,V10.2.2.2.2.2.1,V10.2.2.2.2.2.2.1,V10.2.2.2.2.2.2.2.1,V10.2.2.2.2.2.2.2.2⟩,HW⟩
       ·rintro b a wy hb hd ⟨zz,rfl,HV,HW⟩ K hK
        clear hd
        go_simp
        have V:=HV.out
        have V10:=V.2.2.2.2.2.2.2.2.2.2
        exact hK _ _ ⟨fun s=>if s=48 then .pointer (some ⟨X5,3,none⟩) else zz s,rfl,hid ⟨V.1,V.2.1,V.2.2.1,V.2.2.2.1,V.2.2.2.2.1,V.2.2.2.2.2.1,V.2.2.2.2.2.2.1,V.2.2.2.2.2.2.2.1,V.2.2.2.2.2.2.2.2.1,V.2.2.2.2.2.2.2.2.2.1,V10.1,V10.2.1,V10.2.2.1,fun _=>rfl,V10.2.2.2.2.1,V10.2.2.2.2.2.1,V10.2.2.2.2.2.2.1,V10.2.2.2.2.2.2.2.1,V10.2.2.2.2.2.2.2.2⟩,HW⟩
       ·rintro b a wy hb hd ⟨zz,rfl,HV,HW⟩ K hK
        simp [Region.binds] at hd
        have e13:(zz 48) = .pointer (some ⟨X5,3,none⟩):=(HV.out.2.2.2.2.2.2.2.2.2.2.2.2.2.1) (by simp [hd])
        clear hd
        have hrw:=R5r.out.below R5r.out.lt HW.out
        have q:=hrw.cellAt (i:=3) rfl
        clear hrw
        go_simp
        have V:=HV.out
        have V10:=V.2.2.2.2.2.2.2.2.2.2
        exact hK _ _ ⟨fun s=>if s=49 then .int .u64 (tt.toNat:Int) else if s=48 then .pointer (some ⟨X5,3,none⟩) else zz s,rfl,hid ⟨V.1,V.2.1,V.2.2.1,V.2.2.2.1,V.2.2.2.2.1,V.2.2.2.2.2.1,V.2.2.2.2.2.2.1,V.2.2.2.2.2.2.2.1,V.2.2.2.2.2.2.2.2.1,V.2.2.2.2.2.2.2.2.2.1,V10.1,V10.2.1,V10.2.2.1,fun _=>rfl,fun _=>rfl,V10.2.2.2.2.2.1,V10.2.2.2.2.2.2.1,V10.2.2.2.2.2.2.2.1,V10.2.2.2.2.2.2.2.2⟩,HW⟩
       ·rintro b a wy hb hd ⟨zz,rfl,HV,HW⟩ K hK
        simp [Region.binds] at hd
        have e11:(zz 46) = .agg #[.bool false,.slice (some ⟨bK,oK,none⟩) u.ks.length k,.slice (some ⟨bV,oV,none⟩) u.vs.length v]:=(HV.out.2.2.2.2.2.2.2.2.2.2.2.1) (by simp [hd])
        have e12:(zz 47)=Value.int IntKind.i64 ↑j:=(HV.out.2.2.2.2.2.2.2.2.2.2.2.2.1) (by simp [hd])
        have e14:(zz 49) = .int .u64 (tt.toNat:Int):=(HV.out.2.2.2.2.2.2.2.2.2.2.2.2.2.2.1) (by simp [hd])
        clear hd
        go_simp
        go_at_call 170
        refine (last_any false (HN5.out.below HW.out) j tt HG2.out.2.2 HVK.out.2 (rises_one HFT0.out)).mono ?_
        rintro e wz ⟨rfl,kz⟩
        try go_simp
        have V:=HV.out
        have V10:=V.2.2.2.2.2.2.2.2.2.2
        exact hK _ _ ⟨fun s=>if s=50 then .int .u64 ((lastR u.ks j tt).toNat:Int) else if s=46 then .agg #[.bool false,.slice (some ⟨bK,oK,none⟩) u.ks.length k,.slice (some ⟨bV,oV,none⟩) u.vs.length v] else if s=47 then Value.int IntKind.i64 ↑j else if s=49 then .int .u64 (tt.toNat:Int) else zz s,rfl,hid ⟨V.1,V.2.1,V.2.2.1,V.2.2.2.1,V.2.2.2.2.1,V.2.2.2.2.2.1,V.2.2.2.2.2.2.1,V.2.2.2.2.2.2.2.1,V.2.2.2.2.2.2.2.2.1,V.2.2.2.2.2.2.2.2.2.1,V10.1,fun _=>rfl,fun _=>rfl,V10.2.2.2.1,fun _=>rfl,fun _=>rfl,V10.2.2.2.2.2.2.1,V10.2.2.2.2.2.2.2.1,V10.2.2.2.2.2.2.2.2⟩,hid (HW.out.trans (kz.mono HW.out.size))⟩
       ·rintro b a wy hb hd ⟨zz,rfl,HV,HW⟩ K hK
        simp [Region.binds] at hd
        have e5:(zz 40) = .int .i64 (lv:Int):=(HV.out.2.2.2.2.2.1) (by simp [hd])
        have e10:(zz 45) = .int .u64 (kk.toNat:Int):=(HV.out.2.2.2.2.2.2.2.2.2.2.1) (by simp [hd])
        have e15:(zz 50) = .int .u64 ((lastR u.ks j tt).toNat:Int):=(HV.out.2.2.2.2.2.2.2.2.2.2.2.2.2.2.2.1) (by simp [hd])
        clear hd
        go_simp
        have V:=HV.out
        have V10:=V.2.2.2.2.2.2.2.2.2.2
        exact hK _ _ ⟨fun s=>if s=51 then .agg #[.int .i64 (lv:Int),.int .i64 3,.int .u64 (kk.toNat:Int),.int .u64 ((lastR u.ks j tt).toNat:Int)] else if s=40 then .int .i64 (lv:Int) else if s=45 then .int .u64 (kk.toNat:Int) else if s=50 then .int .u64 ((lastR u.ks j tt).toNat:Int) else zz s,rfl,hid ⟨V.1,V.2.1,V.2.2.1,V.2.2.2.1,V.2.2.2.2.1,fun _=>rfl,V.2.2.2.2.2.2.1,V.2.2.2.2.2.2.2.1,V.2.2.2.2.2.2.2.2.1,V.2.2.2.2.2.2.2.2.2.1,fun _=>rfl,V10.2.1,V10.2.2.1,V10.2.2.2.1,V10.2.2.2.2.1,fun _=>rfl,fun _=>rfl,V10.2.2.2.2.2.2.2.1,V10.2.2.2.2.2.2.2.2⟩,HW⟩
       ·rintro b a wy hb hd ⟨zz,rfl,HV,HW⟩ K hK
        simp [Region.binds] at hd
        have e0:(zz 35)=Value.pointer (some ⟨A.b,0,none⟩):=(HV.out.1) (by simp [hd])
        have e2:(zz 37) = .int .i64 (IntKind.i64.wrap (vv.toNat:Int)):=(HV.out.2.2.1) (by simp [hd])
        have e16:(zz 51) = .agg #[.int .i64 (lv:Int),.int .i64 3,.int .u64 (kk.toNat:Int),.int .u64 ((lastR u.ks j tt).toNat:Int)]:=(HV.out.2.2.2.2.2.2.2.2.2.2.2.2.2.2.2.2.1) (by simp [hd])
        clear hd
        go_simp
        go_at_call 116
        refine (IH.out wy (Hr.out.below HW.out) HL2.out (IntKind.i64.wrap (vv.toNat:Int)) (by have h4:=HV4.out; rw [wrap_i64 (by omega) (by omega)]; omega) 3 (by omega) kk (lastR u.ks j tt) kz7 HQ.out.1).mono ?_
        rintro e wz ⟨rfl,kz⟩
        try go_simp
        have V:=HV.out
        have V10:=V.2.2.2.2.2.2.2.2.2.2
        exact hK _ _ ⟨fun s=>if s=52 then .bool kz7 else if s=35 then Value.pointer (some ⟨A.b,0,none⟩) else if s=37 then .int .i64 (IntKind.i64.wrap (vv.toNat:Int)) else if s=51 then .agg #[.int .i64 (lv:Int),.int .i64 3,.int .u64 (kk.toNat:Int),.int .u64 ((lastR u.ks j tt).toNat:Int)] else zz s,rfl,hid ⟨fun _=>rfl,V.2.1,fun _=>rfl,V.2.2.2.1,V.2.2.2.2.1,V.2.2.2.2.2.1,V.2.2.2.2.2.2.1,V.2.2.2.2.2.2.2.1,V.2.2.2.2.2.2.2.2.1,V.2.2.2.2.2.2.2.2.2.1,V10.1,V10.2.1,V10.2.2.1,V10.2.2.2.1,V10.2.2.2.2.1,V10.2.2.2.2.2.1,fun _=>rfl,fun _=>rfl,V10.2.2.2.2.2.2.2.2⟩,hid (HW.out.trans (kz.mono HW.out.size))⟩
       ·rintro b a wy hb hd ⟨zz,rfl,HV,HW⟩ K hK
        simp [Region.binds] at hd
        have e17:(zz 52) = .bool kz7:=(HV.out.2.2.2.2.2.2.2.2.2.2.2.2.2.2.2.2.2.1) (by simp [hd])
        clear hd
        go_simp
        have V:=HV.out
        have V10:=V.2.2.2.2.2.2.2.2.2.2
        exact hK _ _ ⟨fun s=>if s=53 then .bool (!kz7) else if s=52 then .bool kz7 else zz s,rfl,hid ⟨V.1,V.2.1,V.2.2.1,V.2.2.2.1,V.2.2.2.2.1,V.2.2.2.2.2.1,V.2.2.2.2.2.2.1,V.2.2.2.2.2.2.2.1,V.2.2.2.2.2.2.2.2.1,V.2.2.2.2.2.2.2.2.2.1,V10.1,V10.2.1,V10.2.2.1,V10.2.2.2.1,V10.2.2.2.2.1,V10.2.2.2.2.2.1,V10.2.2.2.2.2.2.1,fun _=>rfl,fun _=>rfl⟩,HW⟩
      case doneD =>
       rintro b a wy hb ⟨zz,rfl,HV,HW⟩
       have e0:=(HV.out.1) (hb 0)
       have e1:=(HV.out.2.1) (hb 1)
       have e2:=(HV.out.2.2.1) (hb 2)
       have e3:=(HV.out.2.2.2.1) (hb 3)
       have e4:=(HV.out.2.2.2.2.1) (hb 4)
       have e5:=(HV.out.2.2.2.2.2.1) (hb 5)
       have e6:=(HV.out.2.2.2.2.2.2.1) (hb 6)
       have e7:=(HV.out.2.2.2.2.2.2.2.1) (hb 7)
       have e8:=(HV.out.2.2.2.2.2.2.2.2.1) (hb 8)
       have e9:=(HV.out.2.2.2.2.2.2.2.2.2.1) (hb 9)
       have e10:=(HV.out.2.2.2.2.2.2.2.2.2.2.1) (hb 10)
       have e11:=(HV.out.2.2.2.2.2.2.2.2.2.2.2.1) (hb 11)
       have e12:=(HV.out.2.2.2.2.2.2.2.2.2.2.2.2.1) (hb 12)
       have e13:=(HV.out.2.2.2.2.2.2.2.2.2.2.2.2.2.1) (hb 13)
       have e14:=(HV.out.2.2.2.2.2.2.2.2.2.2.2.2.2.2.1) (hb 14)
       have e15:=(HV.out.2.2.2.2.2.2.2.2.2.2.2.2.2.2.2.1) (hb 15)
       have e16:=(HV.out.2.2.2.2.2.2.2.2.2.2.2.2.2.2.2.2.1) (hb 16)
       have e17:=(HV.out.2.2.2.2.2.2.2.2.2.2.2.2.2.2.2.2.2.1) (hb 17)
       have e18:=(HV.out.2.2.2.2.2.2.2.2.2.2.2.2.2.2.2.2.2.2) (hb 18)
       simp only [e0,e1,e2,e3,e4,e5,e6,e7,e8,e9,e10,e11,e12,e13,e14,e15,e16,e17,e18]
       clear HV hb e0 e1 e2 e3 e4 e5 e6 e7 e8 e9 e10 e11 e12 e13 e14 e15 e16 e17 e18
       have hk1:=HVK.out.1
       have hk2:=HVK.out.2
       cases kz7 with
       | false =>
        go_wp2_with fail
        go_ret
        exact ⟨by rw [HR3.out,all_not (i:=j) hlt HQ.out.2.symm]; rfl,HB4.out.trans ((HBr.out.trans (HW.out.mono HBr.out.size)).mono HB4.out.size)⟩
       | true =>
        go_wp2_with fail
        go_roundw
        case rel=>exact ⟨j+1,by omega,by have h1:=HVK.out.1; have h2:=HVK.out.2; go_num,fun t ht=>by
         rcases Nat.lt_or_ge t j with q | q
         ·exact HALL.out t q
         ·obtain rfl:t=j:=by omega
          exact HQ.out.2.symm,hid (HBr.out.trans (HW.out.mono HBr.out.size))⟩
        case measure=>have h1:=HVK.out.1; have h2:=HVK.out.2; simp [Go.RowKit.intOf]; omega
     ·have hji : ¬((j:Int)<(u.vs.length:Int)):=by omega
      go_wp2_with fail
      go_ret
      obtain rfl:j=u.vs.length:=by omega
      exact ⟨by rw [HR3.out,all_upto HALL.out]; rfl,HB4.out.trans (HBr.out.mono HB4.out.size)⟩
 ·have hei : ¬(((u.e:Nat):Int)=0):=by omega
  go_wp2_with fail
  go_ret
  exact ⟨by rw [HR.out,decide_eq_false he]; rfl,HB3.out⟩
end
end Go.Proofs.YtogchamogbendaaGreat.Bs
namespace Go.Proofs.YtogchamogbendaaGreat.Bs
open Lib (hid)
open Go.RowKit Oct Mv Tl Pk Pl Go.Maps Go.ChangeMaps
open Lf (Nd Fit nodePage RowN ToldN)
open No (atR at_any)
theorem downF_high (x:BS) (n:Nat) (key:UInt64) : ∀(f h:Nat) (z:Int) (en:UInt64),(downF x n key f h z en).high≤h+f
 | 0,h,z,en=>Nat.zero_le _
 | f+1,h,z,en=>by
  show (if (nodeR x n z).e≠0 then _ else _:WR).high≤_
  split
  ·exact Nat.zero_le _
  ·split
   ·show h+1≤h+(f+1)
    omega
   ·have:=downF_high x n key f (h+1) (IntKind.i64.wrap (((nodeR x n z).vs.getD (atR (nodeR x n z).l (nodeR x n z).ks (nodeR x n z).vs key).1 0).toNat:Int)) (lastR (nodeR x n z).ks (atR (nodeR x n z).l (nodeR x n z).ks (nodeR x n z).vs key).1 en)
    omega
theorem downR_high (x:BS) (n:Nat) (root:Int) (key:UInt64):(downR x n root key).high≤8:=by
 unfold downR
 split
 ·exact Nat.zero_le _
 ·have:=downF_high x n key 8 0 root maxU
  omega
noncomputable def rightR (x:BS) (n:Nat) (root:Int):Bool :=
 if (downR x n root 0).high=0 then decide ((downR x n root 0).e=0) else rightF x n (downR x n root 0).high root (min (downR x n root 0).high 2) 0 maxU
section
variable {Pr:Nat→Prop} {A:Adr} {x:BS} {w:World}
set_option maxHeartbeats 2000000 in
theorem fright_is {n:Nat} (hf:Fed n x) (h:BAt Pr w A x) (root:Int) (hz : -9223372036854775808≤root∧root≤9223372036854775807) (r:Bool) (hr:r=rightR x n root) :
  Calls Tryz.prog 52 #[.pointer (some ⟨A.b,0,none⟩),.int .i64 root] w fun e w'=>e = .returned (.bool r)∧Below w.heap.size w w':=by
 obtain ⟨t,ht⟩ : ∃t,t=downR x n root 0:=⟨_,rfl⟩
 have h8:t.high≤8:=by rw [ht]; exact downR_high x n root 0
 have hdn:=down_any hf h root 0 hz t ht
 by_cases h0:t.high=0
 ·have e:r=decide (t.e=0):=by
   rw [hr]
   unfold rightR
   rw [← ht,if_pos h0]
  rw [e]
  exact right_low root t hdn h0
 ·have HR:=hid (show r=rightF x n t.high root (min t.high 2) 0 maxU by
   rw [hr]
   unfold rightR
   rw [← ht,if_neg h0])
  have HDN:=hid (height_of root t hdn)
  have HF:=hid hf
  have H:=hid h
  clear hdn hf h hr ht
  obtain ⟨m,hm⟩ : ∃m,m=min t.high 2:=⟨_,rfl⟩
  rw [← hm] at HR
  have hq0 : ¬((t.high:Int)=0):=by omega
  have HMN:=hid (show min (t.high:Int) 2=(m:Int)∧1≤m∧m≤7 by omega)
  clear hm
  go_enter Tryz.func52,Tryz.ntmps52
  go_wp2_with fail
  refine HDN.out.mono ?_
  rintro e w1 ⟨rfl,B1⟩
  have H1:=hid (H.out.below B1)
  have HB1:=hid B1
  clear B1
  go_wp2_with fail
  have hc:=right_rec HF.out t.high H1.out ⟨by omega,h8⟩ root hz m HMN.out.2 0 maxU r HR.out
  rw [show ((maxU.toNat:Nat):Int)=18446744073709551615 from rfl,show (((0:UInt64).toNat:Nat):Int)=0 from rfl] at hc
  rw [HMN.out.1]
  refine hc.mono ?_
  rintro e w2 ⟨rfl,B2⟩
  go_wp2_with fail
  go_ret
  exact ⟨rfl,HB1.out.trans (B2.mono HB1.out.size)⟩
def PutN (Pr:Nat→Prop) (A:Adr) (x:BS) (l:Bool) (ks vs:List UInt64) (w:World) (e:Ending) (w':World):Prop :=
 ∃b,e = .returned (.tuple #[.int .i64 ((b:Nat):Int),.bool true])∧x.q.Found b∧BAt Pr w' A (x.put b (nodePage l ks vs))∧ButL w w' A.list
set_option maxHeartbeats 2000000 in
theorem put_law {n:Nat} (hf:Fed n x) (h:BAt Pr w A x) (hr:need x.n<x.q.room) (l:Bool) {K V:Option Addr} {c d m k:Nat} {ks vs:List UInt64} (hnd:Nd w K m c V k d ks vs) (hfit:Fit l ks vs) :
  Calls Tryz.prog 115 #[.pointer (some ⟨A.b,0,none⟩),.agg #[.bool l,.slice K m c,.slice V k d]] w (PutN Pr A x l ks vs w):=by
 have b0:=(Below.refl w.heap.size w).alloc (Nat.le_refl _) (.cells #[.bool l,.slice K m c,.slice V k d] 107)
 have r0:=alloc_rowV w 107 [.bool l,.slice K m c,.slice V k d]
 have HB0:=hid b0
 have HND:=hid (hnd.below b0)
 have H0:=hid (h.below b0)
 have HF:=hid hf
 have HFT:=hid hfit
 have HR:=hid hr
 have c0:=r0.cellAt (i:=0) rfl
 have c1:=r0.cellAt (i:=1) rfl
 have c2:=r0.cellAt (i:=2) rfl
 clear b0 r0 hnd h hf hfit hr
 go_enter Tryz.func115,Tryz.ntmps115
 go_wp2_with fail
 refine (Lf.encode_yes l HND.out HFT.out).mono ?_
 rintro e w1 ⟨g,rfl,F⟩
 have HB1:=hid (HB0.out.trans (F.below.mono HB0.out.size))
 have H1:=hid (H0.out.below F.below)
 have HG:=hid (show ∀w',ButL w1 w' [A.cb,A.mb,A.p]→Oct.Told w' (some ⟨g,0,none⟩) (nodePage l ks vs) from fun w' k=>by
  have hlt:=H0.out.list_lt
  have hb:w'.heap[g]?=w1.heap[g]?:=k.block g F.hi (by
   intro hm
   have:=hlt g (by simp [Adr.list] at hm ⊢; omega)
   have:=F.lo
   omega)
  exact (show Has w' g 0 (nodePage l ks vs) from fun i hi=>(World.cell?_of_block (a:=⟨g,0+i,none⟩) hb).trans (F.has i hi)).told)
 clear F c0 c1 c2
 go_wp2_with fail
 refine (put_at H1.out (by rw [HF.out.blk]; have:=HF.out.hi; omega) (by rw [HF.out.blk,HF.out.xn]) HR.out (Lf.length_nodePage l ks vs HFT.out.2.1 HFT.out.1) HG.out).mono ?_
 rintro e w2 ⟨b,rfl,hfd,hat,hb⟩
 go_wp2_with fail
 go_ret2
 exact ⟨b,rfl,hfd,hat,(ButL.of_below A.list HB1.out (Nat.le_refl _)).trans hb⟩
end
end Go.Proofs.YtogchamogbendaaGreat.Bs
namespace Go.Proofs.YtogchamogbendaaGreat.Bs
open Go.RowKit Oct Mv Tl Pk Pl Go.Maps Go.ChangeMaps
def ivs:List Itm→List Value
 | [] => []
 | e :: es => .int .u64 (e.1.toNat:Int) :: .int .u64 (e.2.toNat:Int) :: ivs es
theorem length_ivs (es:List Itm):(ivs es).length=2*es.length:=by
 induction es with
 | nil=>rfl
 | cons e es ih=>simp [ivs,ih]; omega
theorem ivs_append (xs ys:List Itm):ivs (xs++ys)=ivs xs++ivs ys:=by
 induction xs with
 | nil=>rfl
 | cons x xs ih=>simp [ivs,ih]
theorem ivs_key (es:List Itm) (i:Nat) (h:i<es.length):(ivs es)[2*i]?=some (.int .u64 (es[i].1.toNat:Int)):=by
 induction es generalizing i with
 | nil=>cases h
 | cons e es ih =>
  cases i with
  | zero=>rfl
  | succ i =>
   rw [show 2*(i+1)=2*i+1+1 by omega]
   simp only [ivs,List.getElem?_cons_succ,List.getElem_cons_succ]
   exact ih i (by simpa using h)
theorem ivs_val (es:List Itm) (i:Nat) (h:i<es.length):(ivs es)[2*i+1]?=some (.int .u64 (es[i].2.toNat:Int)):=by
 induction es generalizing i with
 | nil=>cases h
 | cons e es ih =>
  cases i with
  | zero=>rfl
  | succ i =>
   rw [show 2*(i+1)+1=2*i+1+1+1 by omega]
   simp only [ivs,List.getElem?_cons_succ,List.getElem_cons_succ]
   exact ih i (by simpa using h)
theorem ivs_one (es:List Itm) : ∀u∈ivs es,u.oneCell'=true:=by
 induction es with
 | nil=>intro u hu; simp [ivs] at hu
 | cons e es ih =>
  intro u hu
  simp only [ivs,List.mem_cons] at hu
  rcases hu with rfl | rfl | hu
  ·rfl
  ·rfl
  ·exact ih u hu
theorem ivs_nil_iff {es:List Itm}:ivs es = []↔es = []:=by cases es <;> simp [ivs]
structure IRow (w:World) (A:Option Addr) (n c:Nat) (es:List Itm):Prop where
 el:es.length=n
 kc:n≤c
 km:c≤maxLen
 es:ToldV w A (ivs es)
def OwnJ (w:World) (base:Nat) (v:Value) (es:List Itm):Prop:=w.ownsRow base 104 2 v es.length (ivs es)
theorem OwnJ.nil (w:World) (base:Nat):OwnJ w base (.slice none 0 0) []:=⟨by simp [ivs],.inl ⟨rfl,rfl⟩⟩
theorem OwnJ.slice {w:World} {base:Nat} {v:Value} {es:List Itm} (h:OwnJ w base v es) : ∃A c,v = .slice A es.length c∧IRow w A es.length c es∧(A=none→c=0):=by
 rcases h.2 with ⟨rfl,h0⟩ | ⟨g,cap,cur,rfl,hb,hg,hn,hm,hs,ht⟩
 ·have:es = []:=List.eq_nil_of_length_eq_zero h0
  subst this
  exact ⟨none,0,rfl,⟨rfl,Nat.le_refl _,Nat.zero_le _,.inl rfl⟩,fun _=>rfl⟩
 ·refine ⟨_,cap,rfl,⟨rfl,hn,hm,HasV.told (b:=g) (o:=0) fun i hi => ?_⟩,fun e=>by cases e⟩
  rw [Nat.zero_add]
  have:=World.ownsRow.cellAt h i (by rw [length_ivs] at hi; omega)
  rw [this]
  simp [hi]
theorem OwnJ.same {w w':World} {base:Nat} {v:Value} {es:List Itm} (h:OwnJ w base v es) (hk : ∀k,v.ownBlock=some k→k<w.heap.size→w'.heap[k]?=w.heap[k]?):OwnJ w' base v es:=by
 refine ⟨h.1,?_⟩
 rcases h.2 with hn | ⟨g,cap,cur,rfl,hb,hgg,rest⟩
 ·exact .inl hn
 ·refine .inr ⟨g,cap,cur,rfl,hb,?_,rest⟩
  rw [hk g rfl (Array.getElem?_eq_some_iff.1 hgg).1]
  exact hgg
theorem OwnJ.lt {w:World} {base:Nat} {v:Value} {es:List Itm} (h:OwnJ w base v es) {k:Nat} (e:v.ownBlock=some k):base≤k∧k<w.heap.size:=World.ownsRow.lt h k e
theorem OwnJ.kept {w w':World} {base B:Nat} {v:Value} {es:List Itm} (h:OwnJ w base v es) (k:Below B w w') (hB:w.heap.size≤B):OwnJ w' base v es:=h.same fun j _ hj=>k.block j (by omega)
theorem OwnJ.mono {w:World} {base base':Nat} {v:Value} {es:List Itm} (h:OwnJ w base v es) (hb:base'≤base):OwnJ w base' v es:=by
 refine ⟨h.1,?_⟩
 rcases h.2 with h0 | ⟨g,cap,cur,rfl,hb',rest⟩
 ·exact .inl h0
 ·exact .inr ⟨g,cap,cur,rfl,Nat.le_trans hb hb',rest⟩
theorem item_info:(Tryz.prog.info? 104).map (fun i=>(i.zero,i.size,i.bytes))=some (some (.agg #[.int .u64 0,.int .u64 0]),2,16):=by kernel_rfl
end Go.Proofs.YtogchamogbendaaGreat.Bs
namespace Go.Proofs.YtogchamogbendaaGreat.Bs
open Go.RowKit Oct Mv Tl Pk Pl Go.Maps Go.ChangeMaps
open Lf (Nd Fit nodePage RowN ToldN OwnN Rises step_app_num)
open No (atR at_any)
structure Two (w wy:World) (lo base:Nat) (X Y:Value) (ns ms:List UInt64):Prop where
 ok:OwnN wy base X ns
 ov:OwnN wy base Y ms
 ne : ∀k,X.ownBlock=some k→Y.ownBlock≠some k
 bw:Below lo w wy
 b0:base≤wy.heap.size
 lb:lo≤base
theorem Two.below {w wy w':World} {lo base:Nat} {X Y:Value} {ns ms:List UInt64} (h:Two w wy lo base X Y ns ms) (k:Below wy.heap.size wy w'):Two w w' lo base X Y ns ms :=
 ⟨h.ok.below k (Nat.le_refl _),h.ov.below k (Nat.le_refl _),h.ne,h.bw.trans (k.mono (Nat.le_trans h.lb h.b0)),Nat.le_trans h.b0 k.size,h.lb⟩
theorem Two.pushK {w w1 w2:World} {lo base:Nat} {X Y:Value} {ns ms:List UInt64} (h:Two w w1 lo base X Y ns ms) {j m cap:Nat} {y:UInt64} (ho:OwnN w2 base (.slice (some ⟨j,0,none⟩) m cap) (ns ++ [y])) (hg:w1.grownBy w2 X.ownBlock) (hl:X.ownBlock=some j∨j=w1.heap.size) :
  Two w w2 lo base (.slice (some ⟨j,0,none⟩) m cap) Y (ns ++ [y]) ms:=by
 have hb:=h.b0
 have hlb:=h.lb
 refine ⟨ho,h.ov.same fun k e hk=>hg.block k hk (fun e2=>h.ne k e2.symm e),fun k e e2 => ?_,h.bw.trans ⟨hg.os,hg.tape,hg.output,hg.size,fun k hk=>hg.block k (by omega) (fun e=>by have:=(World.ownsRow.lt h.ok k e.symm).1; omega)⟩,Nat.le_trans hb hg.size,h.lb⟩
 have hjk:j=k:=by simpa [Value.ownBlock] using e
 have hkl:=(World.ownsRow.lt h.ov k e2).2
 rcases hl with hl | hl
 ·exact h.ne k (by rw [← hjk]; exact hl) e2
 ·omega
theorem Two.pushV {w w1 w2:World} {lo base:Nat} {X Y:Value} {ns ms:List UInt64} (h:Two w w1 lo base X Y ns ms) {j m cap:Nat} {y:UInt64} (ho:OwnN w2 base (.slice (some ⟨j,0,none⟩) m cap) (ms ++ [y])) (hg:w1.grownBy w2 Y.ownBlock) (hl:Y.ownBlock=some j∨j=w1.heap.size) :
  Two w w2 lo base X (.slice (some ⟨j,0,none⟩) m cap) ns (ms ++ [y]):=by
 have hb:=h.b0
 have hlb:=h.lb
 refine ⟨h.ok.same fun k e hk=>hg.block k hk (fun e2=>h.ne k e e2.symm),ho,fun k e e2 => ?_,h.bw.trans ⟨hg.os,hg.tape,hg.output,hg.size,fun k hk=>hg.block k (by omega) (fun e=>by have:=(World.ownsRow.lt h.ov k e.symm).1; omega)⟩,Nat.le_trans hb hg.size,h.lb⟩
 have hjk:j=k:=by simpa [Value.ownBlock] using e2
 have hkl:=(World.ownsRow.lt h.ok k e).2
 rcases hl with hl | hl
 ·exact h.ne k e (by rw [← hjk]; exact hl)
 ·omega
theorem ownN_nil (w:World) (base:Nat):OwnN w base (.slice none 0 0) []:=⟨by simp [Lf.nvals],.inl ⟨rfl,rfl⟩⟩
def Kp3 (wy:World) (X Y:Value) (g:Nat) (T:TypeId) (cs:List Value):Prop:=RowV wy g T cs∧X.ownBlock≠some g∧Y.ownBlock≠some g
theorem Kp3.below {wy w':World} {X Y:Value} {g:Nat} {T:TypeId} {cs:List Value} (h:Kp3 wy X Y g T cs) (k:Below wy.heap.size wy w'):Kp3 w' X Y g T cs:=⟨h.1.below h.1.lt k,h.2⟩
theorem Kp3.new {w wy:World} {lo base:Nat} {X Y:Value} {ns ms:List UInt64} (h:Two w wy lo base X Y ns ms) (T:TypeId) (cs:List Value):Kp3 (wy.alloc (.cells cs.toArray T)) X Y wy.heap.size T cs :=
 ⟨alloc_rowV wy T cs,fun e=>by have:=(World.ownsRow.lt h.ok _ e).2; omega,fun e=>by have:=(World.ownsRow.lt h.ov _ e).2; omega⟩
theorem Kp3.pushK {w1 w2:World} {X Y:Value} {g j m cap:Nat} {T:TypeId} {cs:List Value} (h:Kp3 w1 X Y g T cs) (hg:w1.grownBy w2 X.ownBlock) (hl:X.ownBlock=some j∨j=w1.heap.size):Kp3 w2 (.slice (some ⟨j,0,none⟩) m cap) Y g T cs:=by
 refine ⟨h.1.block (hg.block g h.1.lt (fun e=>h.2.1 e.symm)),fun e => ?_,h.2.2⟩
 have hjg:j=g:=by simpa [Value.ownBlock] using e
 rcases hl with q | q
 ·exact h.2.1 (by rw [← hjg]; exact q)
 ·have:=h.1.lt; omega
theorem Kp3.pushV {w1 w2:World} {X Y:Value} {g j m cap:Nat} {T:TypeId} {cs:List Value} (h:Kp3 w1 X Y g T cs) (hg:w1.grownBy w2 Y.ownBlock) (hl:Y.ownBlock=some j∨j=w1.heap.size):Kp3 w2 X (.slice (some ⟨j,0,none⟩) m cap) g T cs:=by
 refine ⟨h.1.block (hg.block g h.1.lt (fun e=>h.2.2 e.symm)),h.2.1,fun e => ?_⟩
 have hjg:j=g:=by simpa [Value.ownBlock] using e
 rcases hl with q | q
 ·exact h.2.2 (by rw [← hjg]; exact q)
 ·have:=h.1.lt; omega
theorem Kp3.set {wy:World} {X Y:Value} {g q:Nat} {T:TypeId} {cs:List Value} (h:Kp3 wy X Y g T cs) (hq:g≠q) (i:Nat) (v:Value):Kp3 (wy.setCell ⟨q,i,none⟩ v) X Y g T cs:=⟨h.1.other hq,h.2⟩
theorem Two.set {w wy:World} {q lo base:Nat} {X Y:Value} {ns ms:List UInt64} (h:Two w wy lo base X Y ns ms) (hq:lo≤q∧q<base) (i:Nat) (v:Value):Two w (wy.setCell ⟨q,i,none⟩ v) lo base X Y ns ms :=
 ⟨h.ok.same fun k e _=>heap_setCell_other _ _ _ _ (by have:=(World.ownsRow.lt h.ok k e).1; show k≠q; omega),h.ov.same fun k e _=>heap_setCell_other _ _ _ _ (by have:=(World.ownsRow.lt h.ov k e).1; show k≠q; omega),h.ne,h.bw.setCell (p:=⟨q,i,none⟩) hq.1 v,by simpa using h.b0,h.lb⟩
theorem kp_ne {wy:World} {X Y:Value} {g:Nat} {cs us:List Value} (h:Kp3 wy X Y g 30 cs) (k:RowV wy g 107 us):False:=by
 have e:some (Obj.cells cs.toArray 30)=some (Obj.cells us.toArray 107):=(show wy.heap[g]?=_ from h.1).symm.trans k
 have:=(Obj.cells.inj (Option.some.inj e)).2.1
 revert this
 decide
structure Grow (w0:World) (base q:Nat) (l:Bool) (X Y:Value) (ks vs:List UInt64) (wy:World):Prop where
 two:Two w0 wy q base X Y ks vs
 row:RowV wy q 107 [.bool l,X,Y]
 lo:q<base
section
variable {Pr:Nat→Prop} {A:Adr} {x:BS} {w:World}
end
end Go.Proofs.YtogchamogbendaaGreat.Bs
namespace Go.Proofs.YtogchamogbendaaGreat.Bs
open Lib (hid)
open Go.RowKit Oct Mv Tl Pk Pl Go.Maps Go.ChangeMaps
open Lf (Nd Fit nodePage RowN ToldN)
open No (atR at_any)
attribute [local go_sem] Oper.semAt_some
def encI (x:Itm×Nat):Array Value := #[.agg #[.int .u64 (x.1.1.toNat:Int),.int .u64 (x.1.2.toNat:Int)],.int .i64 (x.2:Nat)]
def Mine (lb:Nat) (A:World) (k:Nat):Prop := ∃v,A.cell? ⟨lb,0,none⟩=some v∧v.ownBlock=some k
structure KeepW (X:List Nat) (lb:Nat) (A B:World):Prop where
 but:B.os=A.os∧B.tape=A.tape∧B.output=A.output∧A.heap.size≤B.heap.size
 block : ∀k,k<A.heap.size→k∉X → ¬Mine lb A k→B.heap[k]?=A.heap[k]?
 mine : ∀k,Mine lb B k→Mine lb A k∨A.heap.size≤k
theorem KeepW.refl (X:List Nat) (lb:Nat) (A:World):KeepW X lb A A:=⟨⟨rfl,rfl,rfl,Nat.le_refl _⟩,fun _ _ _ _=>rfl,fun _ h => .inl h⟩
theorem KeepW.trans {X:List Nat} {lb:Nat} {A B C:World} (h:KeepW X lb A B) (k:KeepW X lb B C):KeepW X lb A C:=by
 obtain ⟨h1,h2,h3,h4⟩:=h.but
 obtain ⟨k1,k2,k3,k4⟩:=k.but
 refine ⟨⟨k1.trans h1,k2.trans h2,k3.trans h3,Nat.le_trans h4 k4⟩,fun j hj hx hm => ?_,fun j hm => ?_⟩
 ·refine (k.block j (by omega) hx fun q => ?_).trans (h.block j hj hx hm)
  rcases h.mine j q with r | r
  ·exact hm r
  ·omega
 ·rcases k.mine j hm with r | r
  ·exact h.mine j r
  ·exact .inr (by omega)
theorem mine_same {lb:Nat} {A B:World} (h:B.heap[lb]?=A.heap[lb]?) (k:Nat):Mine lb B k↔Mine lb A k:=by
 unfold Mine World.cell?
 rw [h]
theorem KeepW.of_below {X:List Nat} {lb B:Nat} {w w':World} (h:Below B w w') (hB:w.heap.size≤B) (hl:lb<w.heap.size):KeepW X lb w w' :=
 ⟨⟨h.os,h.tape,h.output,h.size⟩,fun k hk _ _=>h.block k (by omega),fun k hm => .inl ((mine_same (h.block lb (by omega)) k).1 hm)⟩
theorem KeepW.row {X:List Nat} {lb:Nat} {A B:World} (h:KeepW X lb A B) {g:Nat} {T:TypeId} {vs:List Value} (hr:RowV A g T vs) (hx:g∉X) (hm : ¬Mine lb A g):RowV B g T vs:=(h.block g (lt_of_heap hr) hx hm).trans hr
def minU (a b:UInt64):UInt64:=if a.toNat≤b.toNat then a else b
def runOn (l:List Itm) (en:UInt64):List Itm:=l.takeWhile fun p=>decide (p.1.toNat≤en.toNat)
def leafRun (t:WR) (fr tt:UInt64):List Itm:=runOn ((t.ks.zip t.vs).drop (atR t.l t.ks t.vs fr).1) (minU t.last tt)
def walkL (wayF:UInt64→WR) (tt:UInt64):Nat→UInt64→List (Itm×Nat)
 | 0,_ => []
 | f+1,fr=>if (wayF fr).e≠0 then [((0,0),(wayF fr).e)] else (leafRun (wayF fr) fr tt).map (fun p=>(p,0))++(if tt.toNat≤(wayF fr).last.toNat then [] else walkL wayF tt f ((wayF fr).last+1))
structure Boxes (W:World) (bB bR bT:Nat) (bv:Value) (root:Int) (tt:UInt64):Prop where
 b:RowV W bB 24 [bv]
 r:RowV W bR 3 [.int .i64 root]
 t:RowV W bT 30 [.int .u64 (tt.toNat:Int)]
theorem in_store_row {F:Fence} {n:Nat} {P:Program} {o:Oper} {a:Act} {w:World} {K:Act→World→Prop} {Q:Exit→Act→World→Prop} (ty:TypeId) (x y:Operand) (ho:o.op = .store ty x y)
  (g:Nat) (cells:Array Value) (hx:a.eval x = .pointer (some ⟨g,0,none⟩)) (hy:a.eval y = .agg cells) (t:TypeId) (old:Array Value) (hg:w.heap[g]?=some (.cells old t (0,0))) (hi:(P.info? ty).map (·.size)=some cells.size)
  (hold:old.size=cells.size) (h1:cells.all (·.oneCell')=true) (h:K (a.put o.dst undef) (w.setRow g cells)):Oper.wpIn F n P o a w K Q:=by
 unfold Oper.wpIn
 refine ⟨by simp [Oper.about,ho],?_⟩
 rw [Oper.semAt_plain F _ _ (by rw [ho]; intro c hc'; cases hc')]
 simp only [execOp,ho,hx,hy,Instr.storeAt,Instr.sureAddr,Sem.run_bind,Sem.run_pure,Result.andThen_ok,run_storeVar_row w g t ty old cells hg hi hold h1]
 exact h
def Ch7 (b:Nat→Bool):Prop:=(b 13=true→b 12=true)∧(b 12=true→b 0=true∧b 11=true)∧(b 11=true→b 5=true∧b 10=true)∧(b 10=true→b 9=true)∧(b 9=true→b 7=true∧b 8=true)∧(b 7=true→b 6=true)∧(b 5=true→b 4=true)∧(b 4=true→b 2=true∧b 3=true)∧(b 2=true→b 1=true)
theorem ch7_all {b:Nat→Bool} (h:Ch7 b) (e:b 12=true) : ∀i,i<12→b i=true:=by
 obtain ⟨_,h12,h11,h10,h9,h7,h5,h4,h2⟩:=h
 have k12:=h12 e
 have k11:=h11 k12.2
 have k9:=h10 k11.2
 have k7:=h9 k9
 have k6:=h7 k7.1
 have k4:=h5 k11.1
 have k2:=h4 k4
 have k1:=h2 k2.1
 intro i hi
 match i,hi with
 | 0,_=>exact k12.1
 | 1,_=>exact k1
 | 2,_=>exact k2.1
 | 3,_=>exact k2.2
 | 4,_=>exact k4
 | 5,_=>exact k11.1
 | 6,_=>exact k6
 | 7,_=>exact k7.1
 | 8,_=>exact k7.2
 | 9,_=>exact k9
 | 10,_=>exact k11.2
 | 11,_=>exact k12.2
theorem ch7_not {b:Nat→Bool} (h:Ch7 b) {i:Nat} (hi:i<12) (hb:b i=false):b 12=false:=by
 cases e:b 12 with
 | false=>rfl
 | true=>rw [ch7_all h e i hi] at hb; cases hb
theorem mark_of {b:Nat→Bool} {j:Nat} (i:Nat) (h:b j=true):Inv.mark b i j=true:=by unfold Inv.mark; rw [h]; simp
theorem mark_ne {b:Nat→Bool} {i j:Nat} (h:Inv.mark b i j=true) (hj:j≠i):b j=true:=by
 unfold Inv.mark at h
 rw [beq_eq_false_iff_ne.mpr hj,Bool.false_or] at h
 exact h
theorem ch7_mark {b:Nat→Bool} (h:Ch7 b) (i:Nat) (k13:i=13→b 12=true) (k12:i=12→b 0=true∧b 11=true) (k11:i=11→b 5=true∧b 10=true) (k10:i=10→b 9=true) (k9:i=9→b 7=true∧b 8=true) (k7:i=7→b 6=true) (k5:i=5→b 4=true) (k4:i=4→b 2=true∧b 3=true) (k2:i=2→b 1=true):Ch7 (Inv.mark b i):=by
 obtain ⟨h13,h12,h11,h10,h9,h7,h5,h4,h2⟩:=h
 refine ⟨fun e => ?_,fun e => ?_,fun e => ?_,fun e => ?_,fun e => ?_,fun e => ?_,fun e => ?_,fun e => ?_,fun e => ?_⟩
 ·by_cases q:i=13
  ·exact mark_of i (k13 q)
  ·exact mark_of i (h13 (mark_ne e (fun r=>q r.symm)))
 ·by_cases q:i=12
  ·exact ⟨mark_of i (k12 q).1,mark_of i (k12 q).2⟩
  ·have r:=h12 (mark_ne e (fun r=>q r.symm))
   exact ⟨mark_of i r.1,mark_of i r.2⟩
 ·by_cases q:i=11
  ·exact ⟨mark_of i (k11 q).1,mark_of i (k11 q).2⟩
  ·have r:=h11 (mark_ne e (fun r=>q r.symm))
   exact ⟨mark_of i r.1,mark_of i r.2⟩
 ·by_cases q:i=10
  ·exact mark_of i (k10 q)
  ·exact mark_of i (h10 (mark_ne e (fun r=>q r.symm)))
 ·by_cases q:i=9
  ·exact ⟨mark_of i (k9 q).1,mark_of i (k9 q).2⟩
  ·have r:=h9 (mark_ne e (fun r=>q r.symm))
   exact ⟨mark_of i r.1,mark_of i r.2⟩
 ·by_cases q:i=7
  ·exact mark_of i (k7 q)
  ·exact mark_of i (h7 (mark_ne e (fun r=>q r.symm)))
 ·by_cases q:i=5
  ·exact mark_of i (k5 q)
  ·exact mark_of i (h5 (mark_ne e (fun r=>q r.symm)))
 ·by_cases q:i=4
  ·exact ⟨mark_of i (k4 q).1,mark_of i (k4 q).2⟩
  ·have r:=h4 (mark_ne e (fun r=>q r.symm))
   exact ⟨mark_of i r.1,mark_of i r.2⟩
 ·by_cases q:i=2
  ·exact mark_of i (k2 q)
  ·exact mark_of i (h2 (mark_ne e (fun r=>q r.symm)))
theorem KeepW.told {X:List Nat} {lb m:Nat} {A B:World} (h:KeepW X lb A B) {K:Option Addr} {ns:List UInt64} (hK:NewA m K) (hp : ∀k,m≤k→k∉X ∧ ¬Mine lb A k) (ht:ToldN A K ns):ToldN B K ns:=by
 rcases ht with e | ⟨b,o,e,hh⟩
 ·exact .inl e
 ·refine .inr ⟨b,o,e,fun i hi => ?_⟩
  have hc:=hh i hi
  have hp':=hp b (hK b o e)
  exact (World.cell?_of_block (a:=⟨b,o+i,none⟩) (h.block b (World.block_lt_of_cell? A _ hc) hp'.1 hp'.2)).trans hc
theorem KeepW.nd {X:List Nat} {lb m:Nat} {A B:World} (h:KeepW X lb A B) {K V:Option Addr} {n k j v:Nat} {ks vs:List UInt64} (hK:NewA m K) (hV:NewA m V) (hp : ∀k,m≤k→k∉X ∧ ¬Mine lb A k) (hn:Nd A K n k V j v ks vs):Nd B K n k V j v ks vs :=
 ⟨hn.kl,hn.vl,hn.kc,hn.km,hn.vc,hn.vm,h.told hK hp hn.ks,h.told hV hp hn.vs⟩
theorem runOn_cons (p:Itm) (r:List Itm) (en:UInt64):runOn (p :: r) en=if p.1.toNat≤en.toNat then p :: runOn r en else []:=by
 unfold runOn
 rw [List.takeWhile_cons]
 by_cases h:p.1.toNat≤en.toNat
 ·rw [if_pos h,if_pos (by simpa using h)]
 ·rw [if_neg h,if_neg (by simpa using h)]
theorem min_minU (a b:UInt64):min (a.toNat:Int) (b.toNat:Int)=((minU a b).toNat:Int):=by
 unfold minU
 split <;> omega
def keyAt (b:Nat) (W:World):Nat:=match W.cell? ⟨b,0,none⟩ with
 | some (.int _ z)=>z.toNat
 | _=>0
theorem keyAt_row {W:World} {b:Nat} {T:TypeId} {n:Nat} (h:RowV W b T [.int .u64 (n:Int)]):keyAt b W=n:=by
 unfold keyAt
 rw [h.cellAt (i:=0) rfl]
 exact Int.toNat_natCast n
theorem KeepW.below {X:List Nat} {lb n₀:Nat} {A B:World} (h:KeepW X lb A B) (hX : ∀k∈X,n₀≤k) (hm : ∀k,k<n₀ → ¬Mine lb A k) (hn:n₀≤A.heap.size):Below n₀ A B :=
 ⟨h.but.1,h.but.2.1,h.but.2.2.1,h.but.2.2.2,fun k hk=>h.block k (by omega) (fun q=>by have:=hX k q; omega) (hm k hk)⟩
set_option maxHeartbeats 4000000 in
theorem items1 {n:Nat} (hn:1≤n) (l bB bR bF bT n₀ lo lb:Nat) (X:List Nat) (bv:Value) (root:Int) (tt fr0:UInt64) (wayF:UInt64→WR)
  (hw : ∀k,(wayF k).e=0→k.toNat≤(wayF k).last.toNat∧(wayF k).vs.length=(wayF k).ks.length∧(wayF k).ks.length≤7) (W0:World)
  (hdn : ∀W,Below n₀ W0 W → ∀k,Calls Tryz.prog 117 #[bv,.int .i64 root,.int .u64 (k.toNat:Int)] W (WayOut (wayF k) W))
  (hX : ∀k∈X,n₀≤k) (hlb:lb∈X) (hlo:n₀≤lo∧lb<lo∧bB<lo∧bR<lo∧bF<lo∧bT<lo∧n₀≤bF) (hbx:bB∉X∧bR∉X∧bF∉X∧bT∉X) (hne:bF≠bB∧bF≠bR∧bF≠bT∧bF≠lb)
  (J Jx:List (Itm×Nat)→World→Prop) (hJ : ∀s A B,J s A→ButL A B [bF]→J s B) (hJx : ∀s A B,Jx s A→ButL A B [bF]→Jx s B)
  (hM : ∀s A,J s A→(∀k,Mine lb A k→lo≤k∧k<A.heap.size) ∧ ∀k∈X,k<A.heap.size) (L:List (Itm×Nat)) (hL:L=walkL wayF tt 18446744073709551616 fr0)
  (hY : ∀pre x A,J pre A→pre ++ [x] <+: L→YieldAt Fence.wide (n-1) Tryz.prog l (encI x) A fun e B=>(e = .returned (.bool true)∧J (pre ++ [x]) B∧KeepW X lb A B)∨(e = .returned (.bool false)∧Jx (pre ++ [x]) B))
  (W:World) (hW:Below n₀ W0 W) (h0n:n₀≤W0.heap.size) (hbo:Boxes W bB bR bT bv root tt) (hbF:RowV W bF 30 [.int .u64 (fr0.toNat:Int)]) (h0:J [] W) :
  CallsIn Fence.wide n Tryz.prog 173 #[.func (.yield l) #[] #[],.pointer (some ⟨bB,0,none⟩),.pointer (some ⟨bR,0,none⟩),.pointer (some ⟨bF,0,none⟩),.pointer (some ⟨bT,0,none⟩)] W fun e B =>
   (∃v,e = .returned v)∧((∃xs,xs=L∧J xs B) ∨ ∃pre,Jx pre B):=by
 have HDN:=hid hdn
 have HWY:=hid hw
 have HYY:=hid hY
 have HJ:=hid hJ
 have HJX:=hid hJx
 have HMM:=hid hM
 have HG:=hid (And.intro hX (And.intro hlb (And.intro hlo (And.intro hbx hne))))
 clear hdn hw hY hJ hJx hM hX hlb hlo hbx hne
 refine callsIn_of_wp Tryz.func173 rfl trivial ?_ rfl
 simp only [Tryz.ntmps173,List.size_toArray,List.length_cons,List.length_nil,Nat.reduceAdd,Nat.reduceSub,Array.replicate_succ,Array.replicate_zero,List.push_toArray,List.append_toArray,List.nil_append,List.cons_append]
 gi_wp2
 gi_loopw [] (fun wr => ∃(f:Nat) (fr:UInt64) (pre:List (Itm×Nat)),18446744073709551616-fr.toNat≤f∧L=pre++walkL wayF tt f fr∧J pre wr∧RowV wr bF 30 [.int .u64 (fr.toNat:Int)]∧Boxes wr bB bR bT bv root tt∧Below n₀ W0 wr) (fun wr=>18446744073709551616-keyAt bF wr)
 case atStart=>exact ⟨18446744073709551616,fr0,[],by omega,hL,h0,hbF,hbo,hW⟩
 case round =>
  obtain ⟨f,fr,pre,hfu,hLL,hJ0,hF,hB,hBW⟩:=hrel
  obtain ⟨t,ht⟩ : ∃t,t=wayF fr:=⟨_,rfl⟩
  have cB:=hB.b.cellAt (i:=0) rfl
  have cR:=hB.r.cellAt (i:=0) rfl
  have cF:=hF.cellAt (i:=0) rfl
  have HLL:=hid hLL
  have HFU:=hid hfu
  have HT:=hid ht
  have HW0:=hid (HWY.out fr)
  rw [← ht] at HW0
  have hdn:=HDN.out wr hBW fr
  rw [← ht] at hdn
  have HD:=hid hdn
  have HJ0:=hid hJ0
  have HF0:=hid hF
  have HBX:=hid hB
  have HBW:=hid hBW
  clear hLL hfu ht hdn hJ0 hF hB hBW
  have HLB:=hid (HMM.out _ _ HJ0.out)
  by_cases he:t.e=0
  ·have hei:((t.e:Nat):Int)=0:=by omega
   gi_wp2_with (refine ⟨trivial,?_⟩; gi_at_call 117; refine (callsIn_wide.2 HD.out).mono ?_; rintro e w1 ⟨KA,k,VA,v,rfl,hnd,B1,nK,nV⟩)
   have HS1:=hid B1.size
   have r6:=alloc_rowV w1 189 [.bool t.l,.slice KA t.ks.length k,.slice VA t.vs.length v,.int .i64 (t.high:Nat),.int .u64 (t.last.toNat:Int)]
   have b6:=(Below.refl w1.heap.size w1).alloc (Nat.le_refl _) (.cells #[.bool t.l,.slice KA t.ks.length k,.slice VA t.vs.length v,.int .i64 (t.high:Nat),.int .u64 (t.last.toNat:Int)] 189)
   obtain ⟨X6,hX6⟩ : ∃X,X=w1.heap.size:=⟨_,rfl⟩
   have B2:=B1.trans (b6.mono B1.size)
   have HND:=hid (hnd.below b6)
   have HB2:=hid B2
   have R6:=hid r6
   rw [← hX6] at R6 ⊢
   have HX6:=hid (show wr.heap.size≤X6∧NewA wr.heap.size KA∧NewA wr.heap.size VA from ⟨by rw [hX6]; exact HS1.out,nK,nV⟩)
   clear b6 r6 hnd B1 B2 hX6 HS1
   generalize w1.alloc (.cells #[.bool t.l,.slice KA t.ks.length k,.slice VA t.vs.length v,.int .i64 (t.high:Nat),.int .u64 (t.last.toNat:Int)] 189)=w2 at *
   have HJ2:=hid (HJ.out _ _ _ HJ0.out (ButL.of_below [bF] HB2.out (Nat.le_refl _)))
   have HBX2:=hid (show Boxes w2 bB bR bT bv root tt∧RowV w2 bF 30 [.int .u64 (fr.toNat:Int)] from ⟨⟨HBX.out.b.below HBX.out.b.lt HB2.out,HBX.out.r.below HBX.out.r.lt HB2.out,HBX.out.t.below HBX.out.t.lt HB2.out⟩,HF0.out.below HF0.out.lt HB2.out⟩)
   refine InvIn.wpIn_region_inv (fun b a wy => ∃(z:Nat→Value) (z8:Value),a=⟨(List.toArray (Value.func (Fn.yield l) #[] #[] :: Value.pointer (some ⟨bB,0,none⟩) :: Value.pointer (some ⟨bR,0,none⟩) :: Value.pointer (some ⟨bF,0,none⟩) :: Value.pointer (some ⟨bT,0,none⟩) :: undef :: Value.pointer (some ⟨X6,0,none⟩) :: Value.int IntKind.i64 0 :: z8 :: (z 9) :: u10 :: u11 :: u12 :: Value.tuple #[Value.agg #[Value.bool t.l,Value.slice KA t.ks.length k,Value.slice VA t.vs.length v,Value.int IntKind.i64 ↑t.high,Value.int IntKind.u64 ↑t.last.toNat],Value.int IntKind.i64 0] :: bv :: Value.int IntKind.i64 root :: Value.int IntKind.u64 ↑fr.toNat :: Value.tuple #[Value.agg #[Value.bool t.l,Value.slice KA t.ks.length k,Value.slice VA t.vs.length v,Value.int IntKind.i64 ↑t.high,Value.int IntKind.u64 ↑t.last.toNat],Value.int IntKind.i64 0] :: Value.agg #[Value.bool t.l,Value.slice KA t.ks.length k,Value.slice VA t.vs.length v,Value.int IntKind.i64 ↑t.high,Value.int IntKind.u64 ↑t.last.toNat] :: Value.int IntKind.i64 0 :: Value.int IntKind.i64 0 :: Value.bool false :: u22 :: u23 :: u24 :: u25 :: (z 26) :: (z 27) :: (z 28) :: (z 29) :: (z 30) :: (z 31) :: u32 :: u33 :: u34 :: u35 :: u36 :: u37 :: u38 :: u39 :: u40 :: u41 :: u42 :: u43 :: u44 :: u45 :: u46 :: u47 :: u48 :: u49 :: u50 :: u51 :: u52 :: u53 :: u54 :: u55 :: u56 :: u57 :: u58 :: u59 :: u60 :: u61 :: u62 :: u63 :: u64 :: u65 :: u66 :: u67 :: u68 :: u69 :: u70 :: u71 :: u72 :: u73 :: u74 :: u75 :: [])),[]⟩∧Hid ((b 0=true→(z 26) = .pointer (some ⟨X6,0,none⟩))∧(b 1=true→(z 27) = .agg #[.bool t.l,.slice KA t.ks.length k,.slice VA t.vs.length v])∧(b 2=true→(z 28) = .pointer (some ⟨X6,4,none⟩))∧(b 3=true→(z 29) = .int .u64 (t.last.toNat:Int))∧(b 4=true→(z 30) = .int .u64 (tt.toNat:Int))∧(b 5=true→(z 31) = .int .u64 (min (t.last.toNat:Int) (tt.toNat:Int)))∧(b 8=true→(z 9) = .int .u64 (min (t.last.toNat:Int) (tt.toNat:Int))))∧Hid (Below w2.heap.size w2 wy)∧Hid ((b 7=true→b 6=true)∧(b 6=true → ∃X8 c0 c1 c2,z8 = .pointer (some ⟨X8,0,none⟩)∧w2.heap.size≤X8∧RowV wy X8 107 [c0,c1,c2]∧(b 7=true→c0 = .bool t.l∧c1 = .slice KA t.ks.length k∧c2 = .slice VA t.vs.length v)))) (by kernel_rfl) (by kernel_rfl) ?startA ?stepsA ?doneA
   case startA =>
    intro b hb
    refine ⟨fun s=>if s=9 then u9 else if s=26 then u26 else if s=27 then u27 else if s=28 then u28 else if s=29 then u29 else if s=30 then u30 else if s=31 then u31 else undef,u8,rfl,hid ⟨?_,?_,?_,?_,?_,?_,?_⟩,hid ((show Still w2 w2.drew from ⟨rfl,rfl,rfl,rfl⟩).below _),hid (⟨fun e=>absurd (e.symm.trans (hb 7 (by decide))) (by decide),fun e=>absurd (e.symm.trans (hb 6 (by decide))) (by decide)⟩)⟩
    all_goals (intro e; first | rfl | (rw [hb _ (by decide)] at e; cases e))
   case stepsA =>
    refine ⟨?_,?_,?_,?_,?_,?_,?_,?_,?_,trivial⟩
    ·rintro b a wy hb hd ⟨z,z8,rfl,HV,HW,HX⟩ K hK
     clear hd
     go_simp
     have V:=HV.out
     exact hK _ _ ⟨fun s=>if s=26 then .pointer (some ⟨X6,0,none⟩) else z s,_,rfl,hid ⟨fun _=>rfl,V.2.1,V.2.2.1,V.2.2.2.1,V.2.2.2.2.1,V.2.2.2.2.2.1,V.2.2.2.2.2.2⟩,HW,HX⟩
    ·rintro b a wy hb hd ⟨z,z8,rfl,HV,HW,HX⟩ K hK
     simp [Region.binds] at hd
     have e0:(z 26) = .pointer (some ⟨X6,0,none⟩):=(HV.out.1) (by simp [hd])
     clear hd
     have hrw:=R6.out.below R6.out.lt HW.out
     have q0:=hrw.cellAt (i:=0) rfl
     have q1:=hrw.cellAt (i:=1) rfl
     have q2:=hrw.cellAt (i:=2) rfl
     clear hrw
     go_simp
     have V:=HV.out
     exact hK _ _ ⟨fun s=>if s=27 then .agg #[.bool t.l,.slice KA t.ks.length k,.slice VA t.vs.length v] else if s=26 then .pointer (some ⟨X6,0,none⟩) else z s,_,rfl,hid ⟨fun _=>rfl,fun _=>rfl,V.2.2.1,V.2.2.2.1,V.2.2.2.2.1,V.2.2.2.2.2.1,V.2.2.2.2.2.2⟩,HW,HX⟩
    ·rintro b a wy hb hd ⟨z,z8,rfl,HV,HW,HX⟩ K hK
     clear hd
     go_simp
     have V:=HV.out
     exact hK _ _ ⟨fun s=>if s=28 then .pointer (some ⟨X6,4,none⟩) else z s,_,rfl,hid ⟨V.1,V.2.1,fun _=>rfl,V.2.2.2.1,V.2.2.2.2.1,V.2.2.2.2.2.1,V.2.2.2.2.2.2⟩,HW,HX⟩
    ·rintro b a wy hb hd ⟨z,z8,rfl,HV,HW,HX⟩ K hK
     simp [Region.binds] at hd
     have e2:(z 28) = .pointer (some ⟨X6,4,none⟩):=(HV.out.2.2.1) (by simp [hd])
     clear hd
     have hrw:=R6.out.below R6.out.lt HW.out
     have q4:=hrw.cellAt (i:=4) rfl
     clear hrw
     go_simp
     have V:=HV.out
     exact hK _ _ ⟨fun s=>if s=29 then .int .u64 (t.last.toNat:Int) else if s=28 then .pointer (some ⟨X6,4,none⟩) else z s,_,rfl,hid ⟨V.1,V.2.1,fun _=>rfl,fun _=>rfl,V.2.2.2.2.1,V.2.2.2.2.2.1,V.2.2.2.2.2.2⟩,HW,HX⟩
    ·rintro b a wy hb hd ⟨z,z8,rfl,HV,HW,HX⟩ K hK
     clear hd
     have hrw:=HBX2.out.1.t.below HBX2.out.1.t.lt HW.out
     have q0:=hrw.cellAt (i:=0) rfl
     clear hrw
     go_simp
     have V:=HV.out
     exact hK _ _ ⟨fun s=>if s=30 then .int .u64 (tt.toNat:Int) else z s,_,rfl,hid ⟨V.1,V.2.1,V.2.2.1,V.2.2.2.1,fun _=>rfl,V.2.2.2.2.2.1,V.2.2.2.2.2.2⟩,HW,HX⟩
    ·rintro b a wy hb hd ⟨z,z8,rfl,HV,HW,HX⟩ K hK
     simp [Region.binds] at hd
     have e3:(z 29) = .int .u64 (t.last.toNat:Int):=(HV.out.2.2.2.1) (by simp [hd])
     have e4:(z 30) = .int .u64 (tt.toNat:Int):=(HV.out.2.2.2.2.1) (by simp [hd])
     clear hd
     go_simp
     have V:=HV.out
     exact hK _ _ ⟨fun s=>if s=31 then .int .u64 (min (t.last.toNat:Int) (tt.toNat:Int)) else if s=29 then .int .u64 (t.last.toNat:Int) else if s=30 then .int .u64 (tt.toNat:Int) else z s,_,rfl,hid ⟨V.1,V.2.1,V.2.2.1,fun _=>rfl,fun _=>rfl,fun _=>rfl,V.2.2.2.2.2.2⟩,HW,HX⟩
    ·rintro b a wy hb hd ⟨z,z8,rfl,HV,HW,HX⟩ K hK
     clear hd
     go_simp
     have V:=HV.out
     exact hK _ _ ⟨fun s=>z s,_,rfl,hid ⟨V.1,V.2.1,V.2.2.1,V.2.2.2.1,V.2.2.2.2.1,V.2.2.2.2.2.1,V.2.2.2.2.2.2⟩,hid (HW.out.trans (((Below.refl wy.heap.size wy).alloc (Nat.le_refl _) _).mono HW.out.size)),hid ⟨fun _=>rfl,fun _=>⟨wy.heap.size,_,_,_,rfl,HW.out.size,alloc_rowV wy _ [.bool false,.slice none 0 0,.slice none 0 0],fun e=>absurd ((HX.out.1 e).symm.trans hb) (by decide)⟩⟩⟩
    ·rintro b a wy hb hd ⟨z,z8,rfl,HV,HW,HX⟩ K hK
     simp [Region.binds] at hd
     have dd6:b 6=true:=by simp [hd]
     have e1:(z 27) = .agg #[.bool t.l,.slice KA t.ks.length k,.slice VA t.vs.length v]:=(HV.out.2.1) (by simp [hd])
     have k6:b 6=true:=by simp [hd]
     have HB6:=hid k6
     obtain ⟨X8,c0,c1,c2,hz8,hS8,hr8,_⟩:=HX.out.2 k6
     subst hz8
     clear k6
     clear hd
     rw [e1]
     refine if_wanted (by rfl) (in_store_row 107 _ _ rfl X8 #[.bool t.l,.slice KA t.ks.length k,.slice VA t.vs.length v] rfl rfl _ _ hr8 fnode_size rfl (by simp [Value.oneCell']) ?_)
     have V:=HV.out
     exact hK _ _ ⟨fun s=>if s=27 then .agg #[.bool t.l,.slice KA t.ks.length k,.slice VA t.vs.length v] else z s,_,rfl,hid ⟨V.1,fun _=>rfl,V.2.2.1,V.2.2.2.1,V.2.2.2.2.1,V.2.2.2.2.2.1,V.2.2.2.2.2.2⟩,hid (HW.out.trans (frow_below _ hS8)),hid ⟨fun _=>HB6.out,fun _=>⟨X8,_,_,_,rfl,hS8,frow_set hr8,fun _=>⟨rfl,rfl,rfl⟩⟩⟩⟩
    ·rintro b a wy hb hd ⟨z,z8,rfl,HV,HW,HX⟩ K hK
     simp [Region.binds] at hd
     have e5:(z 31) = .int .u64 (min (t.last.toNat:Int) (tt.toNat:Int)):=(HV.out.2.2.2.2.2.1) (by simp [hd])
     clear hd
     go_simp
     have V:=HV.out
     exact hK _ _ ⟨fun s=>if s=9 then .int .u64 (min (t.last.toNat:Int) (tt.toNat:Int)) else if s=31 then .int .u64 (min (t.last.toNat:Int) (tt.toNat:Int)) else z s,_,rfl,hid ⟨V.1,V.2.1,V.2.2.1,V.2.2.2.1,V.2.2.2.2.1,fun _=>rfl,fun _=>rfl⟩,HW,HX⟩
   case doneA =>
    rintro b a wy hb ⟨z,z8,rfl,HV,HW,HX⟩
    have e0:=(HV.out.1) (hb 0)
    have e1:=(HV.out.2.1) (hb 1)
    have e2:=(HV.out.2.2.1) (hb 2)
    have e3:=(HV.out.2.2.2.1) (hb 3)
    have e4:=(HV.out.2.2.2.2.1) (hb 4)
    have e5:=(HV.out.2.2.2.2.2.1) (hb 5)
    have e8:=(HV.out.2.2.2.2.2.2) (hb 8)
    simp only [e0,e1,e2,e3,e4,e5,e8]
    clear HV e0 e1 e2 e3 e4 e5 e8
    obtain ⟨X8,c0,c1,c2,rfl,hS8,hr8,h7⟩:=HX.out.2 (hb 6)
    obtain ⟨rfl,rfl,rfl⟩:=h7 (hb 7)
    have HW3:=hid HW.out
    have R8:=hid hr8
    have HS8:=hid hS8
    have HBX3:=hid (show Boxes wy bB bR bT bv root tt∧RowV wy bF 30 [.int .u64 (fr.toNat:Int)] from ⟨⟨HBX2.out.1.b.below HBX2.out.1.b.lt HW.out,HBX2.out.1.r.below HBX2.out.1.r.lt HW.out,HBX2.out.1.t.below HBX2.out.1.t.lt HW.out⟩,HBX2.out.2.below HBX2.out.2.lt HW.out⟩)
    have HN3:=hid (HND.out.below HW.out)
    have c0:=hr8.cellAt (i:=0) rfl
    have c1:=hr8.cellAt (i:=1) rfl
    have c2:=hr8.cellAt (i:=2) rfl
    have cF2:=HBX3.out.2.cellAt (i:=0) rfl
    clear HW HX hb h7 hS8 hr8
    gi_wp2_with (refine ⟨trivial,?_⟩; gi_at_call 118; refine (callsIn_wide.2 (at_any t.l HN3.out fr _ rfl)).mono ?_; rintro e w4 ⟨rfl,B4⟩)
    have HB4:=hid (HB2.out.trans ((HW3.out.mono HB2.out.size).trans (B4.mono (Nat.le_trans HB2.out.size HW3.out.size))))
    have HW4:=hid (HW3.out.trans (B4.mono HW3.out.size))
    have R8b:=hid (R8.out.below R8.out.lt B4)
    have R6b:=hid (R6.out.below R6.out.lt HW4.out)
    have HN4:=hid (HN3.out.below B4)
    have HBX4:=hid (show Boxes w4 bB bR bT bv root tt∧RowV w4 bF 30 [.int .u64 (fr.toNat:Int)] from ⟨⟨HBX3.out.1.b.below HBX3.out.1.b.lt B4,HBX3.out.1.r.below HBX3.out.1.r.lt B4,HBX3.out.1.t.below HBX3.out.1.t.lt B4⟩,HBX3.out.2.below HBX3.out.2.lt B4⟩)
    have HJ4:=hid (HJ.out _ _ _ HJ0.out (ButL.of_below [bF] HB4.out (Nat.le_refl _)))
    have HP:=hid (show (∀k,wr.heap.size≤k→k∉X ∧ ¬Mine lb w4 k) ∧ ∀k,k<lo → ¬Mine lb w4 k by
     have hl:=HLB.out
     have hs : ∀k,Mine lb w4 k→Mine lb wr k:=fun k hk=>(mine_same (HB4.out.block lb (hl.2 lb HG.out.2.1)) k).1 hk
     exact ⟨fun k hk=>⟨fun hx=>by have:=hl.2 k hx; omega,fun hm=>by have:=(hl.1 k (hs k hm)).2; omega⟩,fun k hk hm=>by have:=(hl.1 k (hs k hm)).1; omega⟩)
    have HSZ:=hid (show wr.heap.size≤X8∧wr.heap.size≤X6 from ⟨Nat.le_trans HB2.out.size HS8.out,HX6.out.1⟩)
    obtain ⟨en,hen⟩ : ∃en,en=minU t.last tt:=⟨_,rfl⟩
    rw [min_minU,← hen]
    obtain ⟨zz,hzz⟩ : ∃zz,zz=t.ks.zip t.vs:=⟨_,rfl⟩
    obtain ⟨f,rfl⟩ : ∃g,f=g+1:=⟨f-1,by have h1:=HFU.out; have h2:=fr.toNat_lt; omega⟩
    obtain ⟨rest,hrest⟩ : ∃r,r=if tt.toNat≤t.last.toNat then [] else walkL wayF tt f (t.last+1):=⟨_,rfl⟩
    have HRS:=hid hrest
    have HLS:=hid (show L=pre++((runOn (zz.drop (atR t.l t.ks t.vs fr).1) en).map (fun p=>(p,0))++rest) by
     rw [HLL.out]
     show pre++(if (wayF fr).e≠0 then _ else _)=_
     rw [← HT.out,if_neg (fun q=>q he),hrest,hzz,hen]
     rfl)
    have HZZ:=hid hzz
    have hvl:=(HW0.out he).2.1
    have hk7:=(HW0.out he).2.2
    have HVL:=hid (And.intro hvl hk7)
    clear B4 c0 c1 c2 cF2 R8 HN3 HBX3 hen hzz hrest HLL hvl hk7
    obtain ⟨wo,hwo⟩ : ∃x,x=wr:=⟨_,rfl⟩
    subst hwo
    gi_loopw [10] (fun i wq => ∃(ja:Nat) (dn:List (Itm×Nat)),i = .int .i64 (ja:Int)∧J dn wq∧L=dn++((runOn (zz.drop ja) en).map (fun p=>(p,0))++rest)∧Hid (KeepW X lb w4 wq)) (fun i _=>t.ks.length-(Go.RowKit.intOf i).toNat)
    case atStart=>exact ⟨_,pre,rfl,HJ4.out,HLS.out,hid (KeepW.refl _ _ _)⟩
    case round =>
     obtain ⟨ja,dn,rfl,hJd,hLd,HKP⟩:=hrel
     obtain ⟨wq,hwq⟩ : ∃x,x=wr:=⟨_,rfl⟩
     subst hwq
     have HLd:=hid hLd
     have HJd:=hid hJd
     clear hLd hJd
     have R8q:=hid (HKP.out.row R8b.out (HP.out.1 X8 HSZ.out.1).1 (HP.out.1 X8 HSZ.out.1).2)
     have R6q:=hid (HKP.out.row R6b.out (HP.out.1 X6 HSZ.out.2).1 (HP.out.1 X6 HSZ.out.2).2)
     have HNq:=hid (HKP.out.nd HX6.out.2.1 HX6.out.2.2 HP.out.1 HN4.out)
     have HBXq:=hid (show Boxes wq bB bR bT bv root tt∧RowV wq bF 30 [.int .u64 (fr.toNat:Int)] from
      ⟨⟨HKP.out.row HBX4.out.1.b HG.out.2.2.2.1.1 (HP.out.2 _ HG.out.2.2.1.2.2.1),HKP.out.row HBX4.out.1.r HG.out.2.2.2.1.2.1 (HP.out.2 _ HG.out.2.2.1.2.2.2.1),HKP.out.row HBX4.out.1.t HG.out.2.2.2.1.2.2.2 (HP.out.2 _ HG.out.2.2.1.2.2.2.2.2.1)⟩,HKP.out.row HBX4.out.2 HG.out.2.2.2.1.2.2.1 (HP.out.2 _ HG.out.2.2.1.2.2.2.2.1)⟩)
     have c81:=R8q.out.cellAt (i:=1) rfl
     have c64:=R6q.out.cellAt (i:=4) rfl
     have cT:=HBXq.out.1.t.cellAt (i:=0) rfl
     by_cases ha:ja<t.ks.length
     ·have hai:(ja:Int)<(t.ks.length:Int):=by omega
      have ha0:(0:Int)≤(ja:Int):=by omega
      have hav:ja<t.vs.length:=by rw [HVL.out.1]; exact ha
      obtain ⟨bK,oK,rfl,hK⟩ : ∃b o,KA=some ⟨b,o,none⟩∧Lf.HasN wq b o t.ks:=by
       rcases HNq.out.ks with q | q
       ·rw [q] at ha
        exact absurd ha (Nat.not_lt_zero ja)
       ·exact q
      obtain ⟨bV,oV,rfl,hV⟩ : ∃b o,VA=some ⟨b,o,none⟩∧Lf.HasN wq b o t.vs:=by
       rcases HNq.out.vs with q | q
       ·rw [q] at hav
        exact absurd hav (Nat.not_lt_zero ja)
       ·exact q
      have hck:=hK ja ha
      obtain ⟨kk,hkk⟩ : ∃y,t.ks[ja]=y:=⟨_,rfl⟩
      obtain ⟨vv,hvv⟩ : ∃y,t.vs[ja]=y:=⟨_,rfl⟩
      rw [hkk] at hck
      have HCV:=hid (show wq.cell? ⟨bV,oV+ja,none⟩=some (.int .u64 (vv.toNat:Int)) by rw [← hvv]; exact hV ja hav)
      have HCK:=hid hck
      have hdrop:zz.drop ja=(kk,vv) :: zz.drop (ja+1):=by
       rw [HZZ.out,List.drop_eq_getElem_cons (by rw [List.length_zip]; omega),List.getElem_zip,hkk,hvv]
      have HIX:=hid (show (ja:Int)<(t.ks.length:Int)∧(0:Int)≤(ja:Int)∧ja<t.ks.length∧(ja:Int)<(t.vs.length:Int)∧ja<t.vs.length from ⟨hai,ha0,ha,by omega,hav⟩)
      clear hkk hvv hK hV
      by_cases hle:kk.toNat≤en.toNat
      ·have hli:(kk.toNat:Int)≤(en.toNat:Int):=by omega
       have HRN:=hid (show L=dn++((((kk,vv),0):Itm×Nat) :: ((runOn (zz.drop (ja+1)) en).map (fun p=>(p,0))++rest)) by
        rw [HLd.out,hdrop,runOn_cons,if_pos hle]
        rfl)
       clear hdrop hle
       gi_upto_region 7 with (fail)
       clear hli hck c81 c64 cT hai ha0 hav
       have HJdd:=hid (HJ.out _ _ _ HJd.out (ButL.still [bF] (show Still wq wq.drew from ⟨rfl,rfl,rfl,rfl⟩)))
       have R8d:=hid (show RowV wq.drew X8 107 [.bool t.l,.slice (some ⟨bK,oK,none⟩) t.ks.length k,.slice (some ⟨bV,oV,none⟩) t.vs.length v] from R8q.out)
       have HCKd:=hid (show wq.drew.cell? ⟨bK,oK+ja,none⟩=some (.int .u64 (kk.toNat:Int)) from HCK.out)
       have HCVd:=hid (show wq.drew.cell? ⟨bV,oV+ja,none⟩=some (.int .u64 (vv.toNat:Int)) from HCV.out)
       have HKd:=hid (HKP.out.trans (KeepW.of_below (X:=X) (lb:=lb) ((show Still wq wq.drew from ⟨rfl,rfl,rfl,rfl⟩).below wq.heap.size) (Nat.le_refl _) ((HMM.out _ _ HJd.out).2 lb HG.out.2.1)))
       refine InvIn.wpIn_region_inv (fun b a wy => ∃(z:Nat→Value) (z67:Value) (z68:Value),a=⟨(List.toArray (Value.func (Fn.yield l) #[] #[] :: Value.pointer (some ⟨bB,0,none⟩) :: Value.pointer (some ⟨bR,0,none⟩) :: Value.pointer (some ⟨bF,0,none⟩) :: Value.pointer (some ⟨bT,0,none⟩) :: undef :: Value.pointer (some ⟨X6,0,none⟩) :: Value.int IntKind.i64 0 :: Value.pointer (some ⟨X8,0,none⟩) :: Value.int IntKind.u64 ↑en.toNat :: Value.int IntKind.i64 ↑ja :: Value.bool (atR t.l t.ks t.vs fr).snd.fst :: Value.int IntKind.i64 ↑(atR t.l t.ks t.vs fr).snd.snd :: Value.tuple #[Value.agg #[Value.bool t.l,Value.slice (some ⟨bK,oK,none⟩) t.ks.length k,Value.slice (some ⟨bV,oV,none⟩) t.vs.length v,Value.int IntKind.i64 ↑t.high,Value.int IntKind.u64 ↑t.last.toNat],Value.int IntKind.i64 0] :: bv :: Value.int IntKind.i64 root :: Value.int IntKind.u64 ↑fr.toNat :: Value.tuple #[Value.agg #[Value.bool t.l,Value.slice (some ⟨bK,oK,none⟩) t.ks.length k,Value.slice (some ⟨bV,oV,none⟩) t.vs.length v,Value.int IntKind.i64 ↑t.high,Value.int IntKind.u64 ↑t.last.toNat],Value.int IntKind.i64 0] :: Value.agg #[Value.bool t.l,Value.slice (some ⟨bK,oK,none⟩) t.ks.length k,Value.slice (some ⟨bV,oV,none⟩) t.vs.length v,Value.int IntKind.i64 ↑t.high,Value.int IntKind.u64 ↑t.last.toNat] :: Value.int IntKind.i64 0 :: Value.int IntKind.i64 0 :: Value.bool false :: u22 :: u23 :: u24 :: u25 :: Value.pointer (some ⟨X6,0,none⟩) :: Value.agg #[Value.bool t.l,Value.slice (some ⟨bK,oK,none⟩) t.ks.length k,Value.slice (some ⟨bV,oV,none⟩) t.vs.length v] :: Value.pointer (some ⟨X6,4,none⟩) :: Value.int IntKind.u64 ↑t.last.toNat :: Value.int IntKind.u64 ↑tt.toNat :: Value.int IntKind.u64 ↑en.toNat :: Value.tuple #[Value.int IntKind.i64 ↑(atR t.l t.ks t.vs fr).fst,Value.bool (atR t.l t.ks t.vs fr).snd.fst,Value.int IntKind.i64 ↑(atR t.l t.ks t.vs fr).snd.snd] :: Value.agg #[Value.bool t.l,Value.slice (some ⟨bK,oK,none⟩) t.ks.length k,Value.slice (some ⟨bV,oV,none⟩) t.vs.length v] :: Value.int IntKind.u64 ↑fr.toNat :: Value.tuple #[Value.int IntKind.i64 ↑(atR t.l t.ks t.vs fr).fst,Value.bool (atR t.l t.ks t.vs fr).snd.fst,Value.int IntKind.i64 ↑(atR t.l t.ks t.vs fr).snd.snd] :: Value.int IntKind.i64 ↑(atR t.l t.ks t.vs fr).fst :: Value.bool (atR t.l t.ks t.vs fr).snd.fst :: Value.int IntKind.i64 ↑(atR t.l t.ks t.vs fr).snd.snd :: Value.int IntKind.i64 ↑ja :: Value.pointer (some ⟨X8,1,none⟩) :: Value.slice (some ⟨bK,oK,none⟩) t.ks.length k :: Value.int IntKind.i64 ↑t.ks.length :: Value.bool true :: Value.bool true :: Value.pointer (some ⟨X8,1,none⟩) :: Value.slice (some ⟨bK,oK,none⟩) t.ks.length k :: Value.int IntKind.i64 ↑ja :: Value.pointer (some ⟨bK,oK+ja,none⟩) :: Value.int IntKind.u64 ↑kk.toNat :: Value.int IntKind.u64 ↑en.toNat :: Value.bool true :: Value.bool true :: u53 :: u54 :: (z 55) :: (z 56) :: (z 57) :: (z 58) :: (z 59) :: (z 60) :: (z 61) :: (z 62) :: (z 63) :: (z 64) :: (z 65) :: (z 66) :: z67 :: z68 :: u69 :: u70 :: u71 :: u72 :: u73 :: u74 :: u75 :: [])),[]⟩∧Hid ((b 0=true→(z 55)=Value.func (Fn.yield l) #[] #[])∧(b 1=true→(z 56) = .pointer (some ⟨X8,1,none⟩))∧(b 2=true→(z 57) = .slice (some ⟨bK,oK,none⟩) t.ks.length k)∧(b 3=true→(z 58)=Value.int IntKind.i64 ↑ja)∧(b 4=true→(z 59) = .pointer (some ⟨bK,oK+ja,none⟩))∧(b 5=true→(z 60) = .int .u64 (kk.toNat:Int))∧(b 6=true→(z 61) = .pointer (some ⟨X8,2,none⟩))∧(b 7=true→(z 62) = .slice (some ⟨bV,oV,none⟩) t.vs.length v)∧(b 8=true→(z 63)=Value.int IntKind.i64 ↑ja)∧(b 9=true→(z 64) = .pointer (some ⟨bV,oV+ja,none⟩))∧(b 10=true→(z 65) = .int .u64 (vv.toNat:Int))∧(b 11=true→(z 66) = .agg #[.int .u64 (kk.toNat:Int),.int .u64 (vv.toNat:Int)]))∧Hid True∧Hid (Ch7 b∧(b 12=false→wy=wq.drew)∧(b 12=true → ∃q,z67 = .bool q∧(b 13=true→z68 = .bool (!q))∧((q=true∧J (dn ++ [((kk,vv),0)]) wy∧KeepW X lb w4 wy)∨(q=false∧Jx (dn ++ [((kk,vv),0)]) wy))))) (by kernel_rfl) (by kernel_rfl) ?startB ?stepsB ?doneB
       case startB =>
        intro b hb
        refine ⟨fun s=>if s=55 then u55 else if s=56 then u56 else if s=57 then u57 else if s=58 then u58 else if s=59 then u59 else if s=60 then u60 else if s=61 then u61 else if s=62 then u62 else if s=63 then u63 else if s=64 then u64 else if s=65 then u65 else if s=66 then u66 else undef,u67,u68,rfl,hid ⟨?_,?_,?_,?_,?_,?_,?_,?_,?_,?_,?_,?_⟩,hid trivial,hid (⟨⟨fun e=>absurd (e.symm.trans (hb 13 (by decide))) (by decide),fun e=>absurd (e.symm.trans (hb 12 (by decide))) (by decide),fun e=>absurd (e.symm.trans (hb 11 (by decide))) (by decide),fun e=>absurd (e.symm.trans (hb 10 (by decide))) (by decide),fun e=>absurd (e.symm.trans (hb 9 (by decide))) (by decide),fun e=>absurd (e.symm.trans (hb 7 (by decide))) (by decide),fun e=>absurd (e.symm.trans (hb 5 (by decide))) (by decide),fun e=>absurd (e.symm.trans (hb 4 (by decide))) (by decide),fun e=>absurd (e.symm.trans (hb 2 (by decide))) (by decide)⟩,fun _=>rfl,fun e=>absurd (e.symm.trans (hb 12 (by decide))) (by decide)⟩)⟩
        all_goals (intro e; first | rfl | (rw [hb _ (by decide)] at e; cases e))
       case stepsB =>
        refine ⟨?_,?_,?_,?_,?_,?_,?_,?_,?_,?_,?_,?_,?_,?_,trivial⟩
        ·rintro b a wy hb hd ⟨z,z67,z68,rfl,HV,HW,HX⟩ K hK
         clear hd
         go_simp
         have V:=HV.out
         exact hK _ _ ⟨fun s=>if s=55 then Value.func (Fn.yield l) #[] #[] else z s,_,_,rfl,hid ⟨fun _=>rfl,V.2.1,V.2.2.1,V.2.2.2.1,V.2.2.2.2.1,V.2.2.2.2.2.1,V.2.2.2.2.2.2.1,V.2.2.2.2.2.2.2.1,V.2.2.2.2.2.2.2.2.1,V.2.2.2.2.2.2.2.2.2.1,V.2.2.2.2.2.2.2.2.2.2.1,V.2.2.2.2.2.2.2.2.2.2.2⟩,HW,hid ⟨ch7_mark HX.out.1 0 (fun e=>absurd e (by decide)) (fun e=>absurd e (by decide)) (fun e=>absurd e (by decide)) (fun e=>absurd e (by decide)) (fun e=>absurd e (by decide)) (fun e=>absurd e (by decide)) (fun e=>absurd e (by decide)) (fun e=>absurd e (by decide)) (fun e=>absurd e (by decide)),HX.out.2.1,HX.out.2.2⟩⟩
        ·rintro b a wy hb hd ⟨z,z67,z68,rfl,HV,HW,HX⟩ K hK
         clear hd
         go_simp
         have V:=HV.out
         exact hK _ _ ⟨fun s=>if s=56 then .pointer (some ⟨X8,1,none⟩) else z s,_,_,rfl,hid ⟨V.1,fun _=>rfl,V.2.2.1,V.2.2.2.1,V.2.2.2.2.1,V.2.2.2.2.2.1,V.2.2.2.2.2.2.1,V.2.2.2.2.2.2.2.1,V.2.2.2.2.2.2.2.2.1,V.2.2.2.2.2.2.2.2.2.1,V.2.2.2.2.2.2.2.2.2.2.1,V.2.2.2.2.2.2.2.2.2.2.2⟩,HW,hid ⟨ch7_mark HX.out.1 1 (fun e=>absurd e (by decide)) (fun e=>absurd e (by decide)) (fun e=>absurd e (by decide)) (fun e=>absurd e (by decide)) (fun e=>absurd e (by decide)) (fun e=>absurd e (by decide)) (fun e=>absurd e (by decide)) (fun e=>absurd e (by decide)) (fun e=>absurd e (by decide)),HX.out.2.1,HX.out.2.2⟩⟩
        ·rintro b a wy hb hd ⟨z,z67,z68,rfl,HV,HW,HX⟩ K hK
         simp [Region.binds] at hd
         have e1:(z 56) = .pointer (some ⟨X8,1,none⟩):=(HV.out.2.1) (by simp [hd])
         have k1:b 1=true:=by simp [hd]
         have HK:=hid (And.intro k1 trivial)
         clear k1
         clear hd
         have n12:=ch7_not HX.out.1 (i:=2) (by omega) hb
         obtain rfl:=HX.out.2.1 n12
         have q:=R8d.out.cellAt (i:=1) rfl
         go_simp
         have V:=HV.out
         exact hK _ _ ⟨fun s=>if s=57 then .slice (some ⟨bK,oK,none⟩) t.ks.length k else if s=56 then .pointer (some ⟨X8,1,none⟩) else z s,_,_,rfl,hid ⟨V.1,fun _=>rfl,fun _=>rfl,V.2.2.2.1,V.2.2.2.2.1,V.2.2.2.2.2.1,V.2.2.2.2.2.2.1,V.2.2.2.2.2.2.2.1,V.2.2.2.2.2.2.2.2.1,V.2.2.2.2.2.2.2.2.2.1,V.2.2.2.2.2.2.2.2.2.2.1,V.2.2.2.2.2.2.2.2.2.2.2⟩,HW,hid ⟨ch7_mark HX.out.1 2 (fun e=>absurd e (by decide)) (fun e=>absurd e (by decide)) (fun e=>absurd e (by decide)) (fun e=>absurd e (by decide)) (fun e=>absurd e (by decide)) (fun e=>absurd e (by decide)) (fun e=>absurd e (by decide)) (fun e=>absurd e (by decide)) (fun _=>HK.out.1),HX.out.2.1,HX.out.2.2⟩⟩
        ·rintro b a wy hb hd ⟨z,z67,z68,rfl,HV,HW,HX⟩ K hK
         clear hd
         go_simp
         have V:=HV.out
         exact hK _ _ ⟨fun s=>if s=58 then Value.int IntKind.i64 ↑ja else z s,_,_,rfl,hid ⟨V.1,V.2.1,V.2.2.1,fun _=>rfl,V.2.2.2.2.1,V.2.2.2.2.2.1,V.2.2.2.2.2.2.1,V.2.2.2.2.2.2.2.1,V.2.2.2.2.2.2.2.2.1,V.2.2.2.2.2.2.2.2.2.1,V.2.2.2.2.2.2.2.2.2.2.1,V.2.2.2.2.2.2.2.2.2.2.2⟩,HW,hid ⟨ch7_mark HX.out.1 3 (fun e=>absurd e (by decide)) (fun e=>absurd e (by decide)) (fun e=>absurd e (by decide)) (fun e=>absurd e (by decide)) (fun e=>absurd e (by decide)) (fun e=>absurd e (by decide)) (fun e=>absurd e (by decide)) (fun e=>absurd e (by decide)) (fun e=>absurd e (by decide)),HX.out.2.1,HX.out.2.2⟩⟩
        ·rintro b a wy hb hd ⟨z,z67,z68,rfl,HV,HW,HX⟩ K hK
         simp [Region.binds] at hd
         have e2:(z 57) = .slice (some ⟨bK,oK,none⟩) t.ks.length k:=(HV.out.2.2.1) (by simp [hd])
         have e3:(z 58)=Value.int IntKind.i64 ↑ja:=(HV.out.2.2.2.1) (by simp [hd])
         have k2:b 2=true:=by simp [hd]
         have k3:b 3=true:=by simp [hd]
         have HK:=hid (And.intro k2 k3)
         clear k2 k3
         clear hd
         have g1:=HIX.out.1
         have g2:=HIX.out.2.1
         have g3:=HIX.out.2.2.1
         go_simp
         have V:=HV.out
         exact hK _ _ ⟨fun s=>if s=59 then .pointer (some ⟨bK,oK+ja,none⟩) else if s=57 then .slice (some ⟨bK,oK,none⟩) t.ks.length k else if s=58 then Value.int IntKind.i64 ↑ja else z s,_,_,rfl,hid ⟨V.1,V.2.1,fun _=>rfl,fun _=>rfl,fun _=>rfl,V.2.2.2.2.2.1,V.2.2.2.2.2.2.1,V.2.2.2.2.2.2.2.1,V.2.2.2.2.2.2.2.2.1,V.2.2.2.2.2.2.2.2.2.1,V.2.2.2.2.2.2.2.2.2.2.1,V.2.2.2.2.2.2.2.2.2.2.2⟩,HW,hid ⟨ch7_mark HX.out.1 4 (fun e=>absurd e (by decide)) (fun e=>absurd e (by decide)) (fun e=>absurd e (by decide)) (fun e=>absurd e (by decide)) (fun e=>absurd e (by decide)) (fun e=>absurd e (by decide)) (fun e=>absurd e (by decide)) (fun _=>⟨HK.out.1,HK.out.2⟩) (fun e=>absurd e (by decide)),HX.out.2.1,HX.out.2.2⟩⟩
        ·rintro b a wy hb hd ⟨z,z67,z68,rfl,HV,HW,HX⟩ K hK
         simp [Region.binds] at hd
         have e4:(z 59) = .pointer (some ⟨bK,oK+ja,none⟩):=(HV.out.2.2.2.2.1) (by simp [hd])
         have k4:b 4=true:=by simp [hd]
         have HK:=hid (And.intro k4 trivial)
         clear k4
         clear hd
         have n12:=ch7_not HX.out.1 (i:=5) (by omega) hb
         obtain rfl:=HX.out.2.1 n12
         have hc:=HCKd.out
         go_simp
         have V:=HV.out
         exact hK _ _ ⟨fun s=>if s=60 then .int .u64 (kk.toNat:Int) else if s=59 then .pointer (some ⟨bK,oK+ja,none⟩) else z s,_,_,rfl,hid ⟨V.1,V.2.1,V.2.2.1,V.2.2.2.1,fun _=>rfl,fun _=>rfl,V.2.2.2.2.2.2.1,V.2.2.2.2.2.2.2.1,V.2.2.2.2.2.2.2.2.1,V.2.2.2.2.2.2.2.2.2.1,V.2.2.2.2.2.2.2.2.2.2.1,V.2.2.2.2.2.2.2.2.2.2.2⟩,HW,hid ⟨ch7_mark HX.out.1 5 (fun e=>absurd e (by decide)) (fun e=>absurd e (by decide)) (fun e=>absurd e (by decide)) (fun e=>absurd e (by decide)) (fun e=>absurd e (by decide)) (fun e=>absurd e (by decide)) (fun _=>HK.out.1) (fun e=>absurd e (by decide)) (fun e=>absurd e (by decide)),HX.out.2.1,HX.out.2.2⟩⟩
        ·rintro b a wy hb hd ⟨z,z67,z68,rfl,HV,HW,HX⟩ K hK
         clear hd
         go_simp
         have V:=HV.out
         exact hK _ _ ⟨fun s=>if s=61 then .pointer (some ⟨X8,2,none⟩) else z s,_,_,rfl,hid ⟨V.1,V.2.1,V.2.2.1,V.2.2.2.1,V.2.2.2.2.1,V.2.2.2.2.2.1,fun _=>rfl,V.2.2.2.2.2.2.2.1,V.2.2.2.2.2.2.2.2.1,V.2.2.2.2.2.2.2.2.2.1,V.2.2.2.2.2.2.2.2.2.2.1,V.2.2.2.2.2.2.2.2.2.2.2⟩,HW,hid ⟨ch7_mark HX.out.1 6 (fun e=>absurd e (by decide)) (fun e=>absurd e (by decide)) (fun e=>absurd e (by decide)) (fun e=>absurd e (by decide)) (fun e=>absurd e (by decide)) (fun e=>absurd e (by decide)) (fun e=>absurd e (by decide)) (fun e=>absurd e (by decide)) (fun e=>absurd e (by decide)),HX.out.2.1,HX.out.2.2⟩⟩
        ·rintro b a wy hb hd ⟨z,z67,z68,rfl,HV,HW,HX⟩ K hK
         simp [Region.binds] at hd
         have e6:(z 61) = .pointer (some ⟨X8,2,none⟩):=(HV.out.2.2.2.2.2.2.1) (by simp [hd])
         have k6:b 6=true:=by simp [hd]
         have HK:=hid (And.intro k6 trivial)
         clear k6
         clear hd
         have n12:=ch7_not HX.out.1 (i:=7) (by omega) hb
         obtain rfl:=HX.out.2.1 n12
         have q:=R8d.out.cellAt (i:=2) rfl
         go_simp
         have V:=HV.out
         exact hK _ _ ⟨fun s=>if s=62 then .slice (some ⟨bV,oV,none⟩) t.vs.length v else if s=61 then .pointer (some ⟨X8,2,none⟩) else z s,_,_,rfl,hid ⟨V.1,V.2.1,V.2.2.1,V.2.2.2.1,V.2.2.2.2.1,V.2.2.2.2.2.1,fun _=>rfl,fun _=>rfl,V.2.2.2.2.2.2.2.2.1,V.2.2.2.2.2.2.2.2.2.1,V.2.2.2.2.2.2.2.2.2.2.1,V.2.2.2.2.2.2.2.2.2.2.2⟩,HW,hid ⟨ch7_mark HX.out.1 7 (fun e=>absurd e (by decide)) (fun e=>absurd e (by decide)) (fun e=>absurd e (by decide)) (fun e=>absurd e (by decide)) (fun e=>absurd e (by decide)) (fun _=>HK.out.1) (fun e=>absurd e (by decide)) (fun e=>absurd e (by decide)) (fun e=>absurd e (by decide)),HX.out.2.1,HX.out.2.2⟩⟩
        ·rintro b a wy hb hd ⟨z,z67,z68,rfl,HV,HW,HX⟩ K hK
         clear hd
         go_simp
         have V:=HV.out
         exact hK _ _ ⟨fun s=>if s=63 then Value.int IntKind.i64 ↑ja else z s,_,_,rfl,hid ⟨V.1,V.2.1,V.2.2.1,V.2.2.2.1,V.2.2.2.2.1,V.2.2.2.2.2.1,V.2.2.2.2.2.2.1,V.2.2.2.2.2.2.2.1,fun _=>rfl,V.2.2.2.2.2.2.2.2.2.1,V.2.2.2.2.2.2.2.2.2.2.1,V.2.2.2.2.2.2.2.2.2.2.2⟩,HW,hid ⟨ch7_mark HX.out.1 8 (fun e=>absurd e (by decide)) (fun e=>absurd e (by decide)) (fun e=>absurd e (by decide)) (fun e=>absurd e (by decide)) (fun e=>absurd e (by decide)) (fun e=>absurd e (by decide)) (fun e=>absurd e (by decide)) (fun e=>absurd e (by decide)) (fun e=>absurd e (by decide)),HX.out.2.1,HX.out.2.2⟩⟩
        ·rintro b a wy hb hd ⟨z,z67,z68,rfl,HV,HW,HX⟩ K hK
         simp [Region.binds] at hd
         have e7:(z 62) = .slice (some ⟨bV,oV,none⟩) t.vs.length v:=(HV.out.2.2.2.2.2.2.2.1) (by simp [hd])
         have e8:(z 63)=Value.int IntKind.i64 ↑ja:=(HV.out.2.2.2.2.2.2.2.2.1) (by simp [hd])
         have k7:b 7=true:=by simp [hd]
         have k8:b 8=true:=by simp [hd]
         have HK:=hid (And.intro k7 k8)
         clear k7 k8
         clear hd
         have g1:=HIX.out.2.2.2.1
         have g2:=HIX.out.2.1
         have g3:=HIX.out.2.2.2.2
         go_simp
         have V:=HV.out
         exact hK _ _ ⟨fun s=>if s=64 then .pointer (some ⟨bV,oV+ja,none⟩) else if s=62 then .slice (some ⟨bV,oV,none⟩) t.vs.length v else if s=63 then Value.int IntKind.i64 ↑ja else z s,_,_,rfl,hid ⟨V.1,V.2.1,V.2.2.1,V.2.2.2.1,V.2.2.2.2.1,V.2.2.2.2.2.1,V.2.2.2.2.2.2.1,fun _=>rfl,fun _=>rfl,fun _=>rfl,V.2.2.2.2.2.2.2.2.2.2.1,V.2.2.2.2.2.2.2.2.2.2.2⟩,HW,hid ⟨ch7_mark HX.out.1 9 (fun e=>absurd e (by decide)) (fun e=>absurd e (by decide)) (fun e=>absurd e (by decide)) (fun e=>absurd e (by decide)) (fun _=>⟨HK.out.1,HK.out.2⟩) (fun e=>absurd e (by decide)) (fun e=>absurd e (by decide)) (fun e=>absurd e (by decide)) (fun e=>absurd e (by decide)),HX.out.2.1,HX.out.2.2⟩⟩
        ·rintro b a wy hb hd ⟨z,z67,z68,rfl,HV,HW,HX⟩ K hK
         simp [Region.binds] at hd
         have e9:(z 64) = .pointer (some ⟨bV,oV+ja,none⟩):=(HV.out.2.2.2.2.2.2.2.2.2.1) (by simp [hd])
         have k9:b 9=true:=by simp [hd]
         have HK:=hid (And.intro k9 trivial)
         clear k9
         clear hd
         have n12:=ch7_not HX.out.1 (i:=10) (by omega) hb
         obtain rfl:=HX.out.2.1 n12
         have hc:=HCVd.out
         go_simp
         have V:=HV.out
         exact hK _ _ ⟨fun s=>if s=65 then .int .u64 (vv.toNat:Int) else if s=64 then .pointer (some ⟨bV,oV+ja,none⟩) else z s,_,_,rfl,hid ⟨V.1,V.2.1,V.2.2.1,V.2.2.2.1,V.2.2.2.2.1,V.2.2.2.2.2.1,V.2.2.2.2.2.2.1,V.2.2.2.2.2.2.2.1,V.2.2.2.2.2.2.2.2.1,fun _=>rfl,fun _=>rfl,V.2.2.2.2.2.2.2.2.2.2.2⟩,HW,hid ⟨ch7_mark HX.out.1 10 (fun e=>absurd e (by decide)) (fun e=>absurd e (by decide)) (fun e=>absurd e (by decide)) (fun _=>HK.out.1) (fun e=>absurd e (by decide)) (fun e=>absurd e (by decide)) (fun e=>absurd e (by decide)) (fun e=>absurd e (by decide)) (fun e=>absurd e (by decide)),HX.out.2.1,HX.out.2.2⟩⟩
        ·rintro b a wy hb hd ⟨z,z67,z68,rfl,HV,HW,HX⟩ K hK
         simp [Region.binds] at hd
         have e5:(z 60) = .int .u64 (kk.toNat:Int):=(HV.out.2.2.2.2.2.1) (by simp [hd])
         have e10:(z 65) = .int .u64 (vv.toNat:Int):=(HV.out.2.2.2.2.2.2.2.2.2.2.1) (by simp [hd])
         have k5:b 5=true:=by simp [hd]
         have k10:b 10=true:=by simp [hd]
         have HK:=hid (And.intro k5 k10)
         clear k5 k10
         clear hd
         go_simp
         have V:=HV.out
         exact hK _ _ ⟨fun s=>if s=66 then .agg #[.int .u64 (kk.toNat:Int),.int .u64 (vv.toNat:Int)] else if s=60 then .int .u64 (kk.toNat:Int) else if s=65 then .int .u64 (vv.toNat:Int) else z s,_,_,rfl,hid ⟨V.1,V.2.1,V.2.2.1,V.2.2.2.1,V.2.2.2.2.1,fun _=>rfl,V.2.2.2.2.2.2.1,V.2.2.2.2.2.2.2.1,V.2.2.2.2.2.2.2.2.1,V.2.2.2.2.2.2.2.2.2.1,fun _=>rfl,fun _=>rfl⟩,HW,hid ⟨ch7_mark HX.out.1 11 (fun e=>absurd e (by decide)) (fun e=>absurd e (by decide)) (fun _=>⟨HK.out.1,HK.out.2⟩) (fun e=>absurd e (by decide)) (fun e=>absurd e (by decide)) (fun e=>absurd e (by decide)) (fun e=>absurd e (by decide)) (fun e=>absurd e (by decide)) (fun e=>absurd e (by decide)),HX.out.2.1,HX.out.2.2⟩⟩
        ·rintro b a wy hb hd ⟨z,z67,z68,rfl,HV,HW,HX⟩ K hK
         simp [Region.binds] at hd
         have e0:(z 55)=Value.func (Fn.yield l) #[] #[]:=(HV.out.1) (by simp [hd])
         have e11:(z 66) = .agg #[.int .u64 (kk.toNat:Int),.int .u64 (vv.toNat:Int)]:=(HV.out.2.2.2.2.2.2.2.2.2.2.2) (by simp [hd])
         have k0:b 0=true:=by simp [hd]
         have k11:b 11=true:=by simp [hd]
         have HK:=hid (And.intro k0 k11)
         clear k0 k11
         clear hd
         have n12:b 12=false:=hb
         obtain rfl:=HX.out.2.1 n12
         obtain ⟨fn,tmps,assign,body,hy,hR⟩:=HYY.out dn ((kk,vv),0) wq.drew HJdd.out (by rw [HRN.out]; exact ⟨_,by rw [List.append_assoc]; rfl⟩)
         simp only [encI] at hy
         rw [show ((0:Nat):Int)=0 from rfl] at hy
         go_simp
         refine hR.mono ?_
         rintro e W3 (⟨rfl,hJ3,hk3⟩ | ⟨rfl,hJx3⟩)
         ·try go_simp
          have V:=HV.out
          exact hK _ _ ⟨fun s=>if s=55 then Value.func (Fn.yield l) #[] #[] else if s=66 then .agg #[.int .u64 (kk.toNat:Int),.int .u64 (vv.toNat:Int)] else z s,_,_,rfl,hid ⟨fun _=>rfl,V.2.1,V.2.2.1,V.2.2.2.1,V.2.2.2.2.1,V.2.2.2.2.2.1,V.2.2.2.2.2.2.1,V.2.2.2.2.2.2.2.1,V.2.2.2.2.2.2.2.2.1,V.2.2.2.2.2.2.2.2.2.1,V.2.2.2.2.2.2.2.2.2.2.1,fun _=>rfl⟩,HW,hid ⟨ch7_mark HX.out.1 12 (fun e=>absurd e (by decide)) (fun _=>⟨HK.out.1,HK.out.2⟩) (fun e=>absurd e (by decide)) (fun e=>absurd e (by decide)) (fun e=>absurd e (by decide)) (fun e=>absurd e (by decide)) (fun e=>absurd e (by decide)) (fun e=>absurd e (by decide)) (fun e=>absurd e (by decide)),fun e=>(by cases e),fun _=>⟨true,rfl,fun e=>absurd ((HX.out.1.1 (mark_ne e (by decide))).symm.trans hb) (by decide),.inl ⟨rfl,hJ3,HKd.out.trans hk3⟩⟩⟩⟩
         ·try go_simp
          have V:=HV.out
          exact hK _ _ ⟨fun s=>if s=55 then Value.func (Fn.yield l) #[] #[] else if s=66 then .agg #[.int .u64 (kk.toNat:Int),.int .u64 (vv.toNat:Int)] else z s,_,_,rfl,hid ⟨fun _=>rfl,V.2.1,V.2.2.1,V.2.2.2.1,V.2.2.2.2.1,V.2.2.2.2.2.1,V.2.2.2.2.2.2.1,V.2.2.2.2.2.2.2.1,V.2.2.2.2.2.2.2.2.1,V.2.2.2.2.2.2.2.2.2.1,V.2.2.2.2.2.2.2.2.2.2.1,fun _=>rfl⟩,HW,hid ⟨ch7_mark HX.out.1 12 (fun e=>absurd e (by decide)) (fun _=>⟨HK.out.1,HK.out.2⟩) (fun e=>absurd e (by decide)) (fun e=>absurd e (by decide)) (fun e=>absurd e (by decide)) (fun e=>absurd e (by decide)) (fun e=>absurd e (by decide)) (fun e=>absurd e (by decide)) (fun e=>absurd e (by decide)),fun e=>(by cases e),fun _=>⟨false,rfl,fun e=>absurd ((HX.out.1.1 (mark_ne e (by decide))).symm.trans hb) (by decide),.inr ⟨rfl,hJx3⟩⟩⟩⟩
        ·rintro b a wy hb hd ⟨z,z67,z68,rfl,HV,HW,HX⟩ K hK
         simp [Region.binds] at hd
         have dd12:b 12=true:=by simp [hd]
         have k12:b 12=true:=by simp [hd]
         have HK:=hid (And.intro k12 trivial)
         clear k12
         clear hd
         obtain ⟨q,hz67,_,hdj⟩:=HX.out.2.2 HK.out.1
         subst hz67
         go_simp
         have V:=HV.out
         exact hK _ _ ⟨fun s=>z s,_,_,rfl,hid ⟨V.1,V.2.1,V.2.2.1,V.2.2.2.1,V.2.2.2.2.1,V.2.2.2.2.2.1,V.2.2.2.2.2.2.1,V.2.2.2.2.2.2.2.1,V.2.2.2.2.2.2.2.2.1,V.2.2.2.2.2.2.2.2.2.1,V.2.2.2.2.2.2.2.2.2.2.1,V.2.2.2.2.2.2.2.2.2.2.2⟩,HW,hid ⟨ch7_mark HX.out.1 13 (fun _=>HK.out.1) (fun e=>absurd e (by decide)) (fun e=>absurd e (by decide)) (fun e=>absurd e (by decide)) (fun e=>absurd e (by decide)) (fun e=>absurd e (by decide)) (fun e=>absurd e (by decide)) (fun e=>absurd e (by decide)) (fun e=>absurd e (by decide)),fun e=>absurd (HK.out.1.symm.trans (show b 12=false from e)) (by decide),fun _=>⟨q,rfl,fun _=>rfl,hdj⟩⟩⟩
       case doneB =>
        rintro b a wy hb ⟨z,z67,z68,rfl,HV,HW,HX⟩
        have e0:=(HV.out.1) (hb 0)
        have e1:=(HV.out.2.1) (hb 1)
        have e2:=(HV.out.2.2.1) (hb 2)
        have e3:=(HV.out.2.2.2.1) (hb 3)
        have e4:=(HV.out.2.2.2.2.1) (hb 4)
        have e5:=(HV.out.2.2.2.2.2.1) (hb 5)
        have e6:=(HV.out.2.2.2.2.2.2.1) (hb 6)
        have e7:=(HV.out.2.2.2.2.2.2.2.1) (hb 7)
        have e8:=(HV.out.2.2.2.2.2.2.2.2.1) (hb 8)
        have e9:=(HV.out.2.2.2.2.2.2.2.2.2.1) (hb 9)
        have e10:=(HV.out.2.2.2.2.2.2.2.2.2.2.1) (hb 10)
        have e11:=(HV.out.2.2.2.2.2.2.2.2.2.2.2) (hb 11)
        simp only [e0,e1,e2,e3,e4,e5,e6,e7,e8,e9,e10,e11]
        clear HV e0 e1 e2 e3 e4 e5 e6 e7 e8 e9 e10 e11
        obtain ⟨q,rfl,h68,hdj⟩:=HX.out.2.2 (hb 12)
        obtain rfl:=h68 (hb 13)
        rcases hdj with ⟨rfl,hJ3,hk3⟩ | ⟨rfl,hJx3⟩
        ·have hk7:=HVL.out.2
         have hix:=HIX.out.2.2.1
         clear hb HX
         gi_wp2
         go_roundw
         case rel=>exact ⟨ja+1,_,by go_num,hJ3,by rw [HRN.out,List.append_assoc]; rfl,hid hk3⟩
         case measure=>simp [Go.RowKit.intOf]; omega
        ·clear hb HX
         gi_wp2
         refine bodyPost_ret (results_none rfl _ _ _) rfl ?_
         exact ⟨⟨_,rfl⟩,.inr ⟨_,hJx3⟩⟩
      ·have hli:decide ((kk.toNat:Int)≤(en.toNat:Int))=false:=decide_eq_false (by omega)
       have hln:decide (kk.toNat≤en.toNat)=false:=decide_eq_false hle
       have HLt:=hid (show L=dn++rest by rw [HLd.out,hdrop,runOn_cons,if_neg hle]; rfl)
       clear hdrop
       by_cases hto:tt.toNat≤t.last.toNat
       ·have hti:(tt.toNat:Int)≤(t.last.toNat:Int):=by omega
        gi_wp2
        refine bodyPost_ret (results_none rfl _ _ _) rfl ?_
        exact ⟨⟨_,rfl⟩,.inl ⟨_,by rw [HLt.out,HRS.out,if_pos hto,List.append_nil],HJd.out⟩⟩
       ·have hti:decide ((tt.toNat:Int)≤(t.last.toNat:Int))=false:=decide_eq_false (by omega)
        have htn:decide (tt.toNat≤t.last.toNat)=false:=decide_eq_false hto
        have hlt1:(t.last+1).toNat=t.last.toNat+1:=by
         have h1:=tt.toNat_lt
         rw [UInt64.toNat_add,show (1:UInt64).toNat=1 from rfl]
         exact Nat.mod_eq_of_lt (by omega)
        have hwr:IntKind.u64.wrap ((t.last.toNat:Int)+1)=(((t.last+1).toNat:Nat):Int):=by
         have h1:=tt.toNat_lt
         rw [IntKind.wrap_u64,hlt1]
         omega
        have cFq:=HBXq.out.2.cellAt (i:=0) rfl
        have hfz:=(show Boxed wq bF 30 (.int .u64 (fr.toNat:Int)) from HBXq.out.2).frozen
        have HBq:=hid (show Below n₀ W0 wq from (HBW.out.trans (HB4.out.mono (Nat.le_trans h0n HBW.out.size))).trans (HKP.out.below HG.out.1 (fun k hk=>HP.out.2 k (by have:=HG.out.2.2.1.1; omega)) (Nat.le_trans h0n (Nat.le_trans HBW.out.size HB4.out.size))))
        gi_wp2
        have e1:((t.last.toNat:Int)+1)=(((t.last+1).toNat:Nat):Int):=by rw [hlt1]; rfl
        rw [e1]
        have hle1:=(HW0.out he).1
        have hfu:=HFU.out
        have hne:=HG.out.2.2.2.2
        refine ⟨⟨f,t.last+1,dn,by rw [hlt1]; omega,by rw [HLt.out,HRS.out,if_neg hto],HJ.out _ _ _ HJd.out (ButL.set wq bF 0 _),HBXq.out.2.set 0 _,⟨HBXq.out.1.b.block (heap_setCell_other _ _ _ _ (fun e=>hne.1 e.symm)),HBXq.out.1.r.block (heap_setCell_other _ _ _ _ (fun e=>hne.2.1 e.symm)),HBXq.out.1.t.block (heap_setCell_other _ _ _ _ (fun e=>hne.2.2.1 e.symm))⟩,HBq.out.setCell (p:=⟨bF,0,none⟩) HG.out.2.2.1.2.2.2.2.2.2 _⟩,?_⟩
        rw [keyAt_row HF0.out,keyAt_row (show RowV _ bF 30 [.int .u64 (((t.last+1).toNat:Nat):Int)] from HBXq.out.2.set 0 _),hlt1]
        have:=tt.toNat_lt
        omega
     ·have hai:decide ((ja:Int)<(t.ks.length:Int))=false:=decide_eq_false (by omega)
      have han:decide (ja<t.ks.length)=false:=decide_eq_false ha
      have HLt:=hid (show L=dn++rest by rw [HLd.out,List.drop_eq_nil_of_le (by rw [HZZ.out,List.length_zip]; omega)]; rfl)
      by_cases hto:tt.toNat≤t.last.toNat
      ·have hti:(tt.toNat:Int)≤(t.last.toNat:Int):=by omega
       gi_wp2
       refine bodyPost_ret (results_none rfl _ _ _) rfl ?_
       exact ⟨⟨_,rfl⟩,.inl ⟨_,by rw [HLt.out,HRS.out,if_pos hto,List.append_nil],HJd.out⟩⟩
      ·have hti:decide ((tt.toNat:Int)≤(t.last.toNat:Int))=false:=decide_eq_false (by omega)
       have htn:decide (tt.toNat≤t.last.toNat)=false:=decide_eq_false hto
       have hlt1:(t.last+1).toNat=t.last.toNat+1:=by
        have h1:=tt.toNat_lt
        rw [UInt64.toNat_add,show (1:UInt64).toNat=1 from rfl]
        exact Nat.mod_eq_of_lt (by omega)
       have hwr:IntKind.u64.wrap ((t.last.toNat:Int)+1)=(((t.last+1).toNat:Nat):Int):=by
        have h1:=tt.toNat_lt
        rw [IntKind.wrap_u64,hlt1]
        omega
       have cFq:=HBXq.out.2.cellAt (i:=0) rfl
       have hfz:=(show Boxed wq bF 30 (.int .u64 (fr.toNat:Int)) from HBXq.out.2).frozen
       have HBq:=hid (show Below n₀ W0 wq from (HBW.out.trans (HB4.out.mono (Nat.le_trans h0n HBW.out.size))).trans (HKP.out.below HG.out.1 (fun k hk=>HP.out.2 k (by have:=HG.out.2.2.1.1; omega)) (Nat.le_trans h0n (Nat.le_trans HBW.out.size HB4.out.size))))
       gi_wp2
       have e1:((t.last.toNat:Int)+1)=(((t.last+1).toNat:Nat):Int):=by rw [hlt1]; rfl
       rw [e1]
       have hle1:=(HW0.out he).1
       have hfu:=HFU.out
       have hne:=HG.out.2.2.2.2
       refine ⟨⟨f,t.last+1,dn,by rw [hlt1]; omega,by rw [HLt.out,HRS.out,if_neg hto],HJ.out _ _ _ HJd.out (ButL.set wq bF 0 _),HBXq.out.2.set 0 _,⟨HBXq.out.1.b.block (heap_setCell_other _ _ _ _ (fun e=>hne.1 e.symm)),HBXq.out.1.r.block (heap_setCell_other _ _ _ _ (fun e=>hne.2.1 e.symm)),HBXq.out.1.t.block (heap_setCell_other _ _ _ _ (fun e=>hne.2.2.1 e.symm))⟩,HBq.out.setCell (p:=⟨bF,0,none⟩) HG.out.2.2.1.2.2.2.2.2.2 _⟩,?_⟩
       rw [keyAt_row HF0.out,keyAt_row (show RowV _ bF 30 [.int .u64 (((t.last+1).toNat:Nat):Int)] from HBXq.out.2.set 0 _),hlt1]
       have:=tt.toNat_lt
       omega
  ·have hei : ¬(((t.e:Nat):Int)=0):=by omega
   have HLe:=hid (show L=pre ++ [((0,0),t.e)] by
    rw [HLL.out]
    have h1:=HFU.out
    have h2:=fr.toNat_lt
    cases f with
    | zero=>omega
    | succ f =>
     show pre++(if (wayF fr).e≠0 then _ else _)=_
     rw [← HT.out,if_pos he])
   gi_wp2_with (refine ⟨trivial,?_⟩; gi_at_call 117; refine (callsIn_wide.2 HD.out).mono ?_; rintro e w1 ⟨KA,k,VA,v,rfl,hnd,B1,nK,nV⟩; have b6:=(Below.refl w1.heap.size w1).alloc (Nat.le_refl _) (.cells #[.bool t.l,.slice KA t.ks.length k,.slice VA t.vs.length v,.int .i64 (t.high:Nat),.int .u64 (t.last.toNat:Int)] 189); obtain ⟨fn,tmps,assign,body,hy,hR⟩:=HYY.out pre ((0,0),t.e) _ (HJ.out _ _ _ HJ0.out (ButL.of_below [bF] (B1.trans (b6.mono B1.size)) (Nat.le_refl _))) (by rw [HLe.out]; exact List.prefix_refl _); simp only [encI] at hy; rw [show (((0:UInt64).toNat:Nat):Int)=0 from rfl] at hy)
   refine hR.mono ?_
   rintro e W3 (⟨rfl,hJ3,hk3⟩ | ⟨rfl,hJx3⟩)
   ·gi_wp2
    refine bodyPost_ret (results_none rfl _ _ _) rfl ?_
    exact ⟨⟨_,rfl⟩,.inl ⟨_,HLe.out.symm,hJ3⟩⟩
   ·gi_wp2
    refine bodyPost_ret (results_none rfl _ _ _) rfl ?_
    exact ⟨⟨_,rfl⟩,.inr ⟨_,hJx3⟩⟩
end Go.Proofs.YtogchamogbendaaGreat.Bs
