import Derived.Test.YtogchamogbendaaGreatQtr
import Derived.Test.YtogchamogbendaaGreatQte
import Derived.Test.YtogchamogbendaaGreatQtk
set_option maxRecDepth 100000
set_option linter.unusedVariables false
set_option linter.unusedSimpArgs false
namespace Go.Proofs.YtogchamogbendaaGreat.Bs
open Lib (hid)
open Go.RowKit Oct Mv Tl Pk Pl Go.Maps Go.ChangeMaps
open Dsk (dT)
open Su (Sup nth scells scell psup perr pslot zero18)
open Ix (idxPage idxBody wvals Wd OwnW DecYes)
theorem right_is {w:World} {a cb mb c:Nat} {s:Tl.St} (h:Tl.At w a cb mb c s) {A1 A2:Option Addr} {c1 c2 n m:Nat} {l1 l2:List Nat} (h1:ToldV w A1 (ints l1)) (h2:ToldV w A2 (ints l2)) (hr:RightS s (toI l1) (toI l2)) (hn:l1.length=n) (hm:l2.length=m) (hs:s.n≤4096) :
  Calls Tryz.prog 77 #[.pointer (some ⟨a,0,none⟩),.agg #[.slice A1 n c1,.slice A2 m c2]] w fun e w'=>e = .returned (.bool true)∧Below w.heap.size w w':=by
 subst hn hm
 have hb:=right_lt hr hs
 refine (right_nat h h1 h2 (fun x hx=>by have:=hb.1 x hx; omega) (fun x hx=>by have:=hb.2 x hx; omega)).mono fun e w' ⟨r,he,hi,hk⟩=>⟨?_,hk⟩
 rw [he,hi.2 hr]
theorem built_base (A:Adr) (n m s1 d1 s2 d2:Nat) (s:Sup):Tryz.prog.built 72 [(0,.pointer (some ⟨A.d,0,none⟩)),(1,.pointer (some ⟨A.ta,0,none⟩)),(2,.pointer (some ⟨A.p,0,none⟩)),(3,.agg #[.slice (some ⟨s1,0,none⟩) n d1,.slice (some ⟨s2,0,none⟩) m d2]),(4,.agg (scells s).toArray),(5,.agg (scells s).toArray),(6,.map (some A.fm))]=some ((bcells A n m s1 d1 s2 d2 s s).set 43 (.pointer none)).toArray:=by kernel_rfl
theorem base_zero (w:World):(zeroValue 72).run Tryz.prog w = .ok (.agg #[.pointer none,.pointer none,.pointer none,.slice none 0 0,.slice none 0 0,(.int .u64 0),(.int .u32 0),(.int .u32 0),(.int .u32 0),(.int .u32 0),(.int .u32 0),(.int .u32 0),(.int .u32 0),(.int .u32 0),(.int .u32 0),(.int .u64 0),(.int .u64 0),(.int .u64 0),(.int .u64 0),(.int .u64 0),(.int .u64 0),(.int .u64 0),(.int .u64 0),(.int .u64 0),(.int .u32 0),(.int .u32 0),(.int .u32 0),(.int .u32 0),(.int .u32 0),(.int .u32 0),(.int .u32 0),(.int .u32 0),(.int .u32 0),(.int .u64 0),(.int .u64 0),(.int .u64 0),(.int .u64 0),(.int .u64 0),(.int .u64 0),(.int .u64 0),(.int .u64 0),.map none,.bool false,.pointer none]) w:=by kernel_rfl
theorem base_size:(Tryz.prog.info? 72).map (·.size)=some 44:=by kernel_rfl
theorem bcells_one (A:Adr) (n m s1 d1 s2 d2:Nat) (s:Sup) : ∀v∈(bcells A n m s1 d1 s2 d2 s s).set 43 (.pointer none),v.oneCell'=true:=by
 intro v hv
 have h1:=Su.scells_one s
 rcases List.mem_or_eq_of_mem_set hv with hv | rfl
 ·unfold bcells at hv
  simp only [List.mem_append,List.mem_cons,List.not_mem_nil,or_false] at hv
  rcases hv with (rfl | rfl | rfl | rfl | rfl) | hv | hv | (rfl | rfl | rfl) <;> first | rfl | exact h1 _ hv
 ·rfl
theorem _root_.List.set_getElem?_self' {α:Type} {l:List α} {i:Nat} {v:α} (h:l[i]?=some v):l.set i v=l:=by
 apply List.ext_getElem?
 intro j
 rcases Nat.decEq i j with e | e
 ·rw [List.getElem?_set_ne e]
 ·subst e
  rw [List.getElem?_set_self (List.getElem?_eq_some_iff.1 h).1,h]
structure Opens (D:Dsk.St) (s:Sup) (l1 l2:List Nat) (W:List UInt16):Prop where
 pick:psup (D.says 0) (D.says 1)=s∧perr (D.says 0) (D.says 1)=0
 n:nth s 1=D.n
 pages:Pages D s l1 l2 W
 right:RightS (Tl.St.of W) (toI l1) (toI l2)
def opened (D:Dsk.St) (s:Sup) (l1 l2:List Nat) (W:List UInt16):BS:=⟨⟨Tl.St.of W,2,2,0⟩,l1,l2,s,s,fun _=>none,D⟩
def OpenOut (Pr:Nat→Prop) (w:World) (d:Nat) (x:BS) (e:Ending) (w':World):Prop := ∃A:Adr,e = .returned (.tuple #[.pointer (some ⟨A.b,0,none⟩),.int .i64 0])∧A.d=d∧(∀k∈A.list,w.heap.size≤k)∧BAt Pr w' A x∧Below w.heap.size w w'
set_option maxHeartbeats 1000000 in
theorem open_yes {Pr:Nat→Prop} {w:World} {d:Nat} {D:Dsk.St} (hd:DIs Pr w d D) (hg:D.gone=false) (hP : ∀k,Pr k→k<w.heap.size) {s:Sup} {l1 l2:List Nat} {W:List UInt16} (ho:Opens D s l1 l2 W) :
  Calls Tryz.prog 17 #[.pointer (some ⟨d,0,none⟩)] w (OpenOut Pr w d (opened D s l1 l2 W)):=by
 have HD:=hid hd
 have HO:=hid ho
 have HP:=hid hP
 have HOK:=hid (show Su.Ok s from ho.pick.1▸Su.ok_psup _ _)
 obtain ⟨n,hn⟩ : ∃n,D.n=n:=⟨_,rfl⟩
 have HN:=hid (show D.n=n∧16≤n∧n≤4096 from ⟨hn,hn▸ho.pages.lo,hn▸ho.pages.hi⟩)
 clear hd hP ho hn
 go_enter Tryz.func17,Tryz.ntmps17
 go_wp2_with fail
 refine (superOf_any HD.out hg HN.out.1 (by have:=HN.out.2.1; omega) HN.out.2.2 (s:=s) (x:=0) (s':=s) (x':=0) ⟨HO.out.pick.1,rfl,HO.out.pick.2⟩ (.inl ⟨rfl,HO.out.n.trans HN.out.1⟩) ⟨fun _=>⟨rfl,rfl⟩,fun h=>absurd rfl h⟩).mono ?_
 rintro e w1 ⟨rfl,kz⟩
 have HB1:=hid kz
 have hst:=run_storeCells_new (P:=Tryz.prog) w1 69 #[(.int .u64 0),(.int .u32 0),(.int .u32 0),(.int .u32 0),(.int .u32 0),(.int .u32 0),(.int .u32 0),(.int .u32 0),(.int .u32 0),(.int .u32 0),(.int .u64 0),(.int .u64 0),(.int .u64 0),(.int .u64 0),(.int .u64 0),(.int .u64 0),(.int .u64 0),(.int .u64 0)] (scells s).toArray (Su.size_scells _) (by simp [Su.length_scells]) (Su.one_scells _)
 have hlc:=Su.length_scells s
 have r4:=alloc_rowV w1 69 (scells s)
 have b4:=(Below.refl w1.heap.size w1).alloc (Nat.le_refl _) (.cells (scells s).toArray 69)
 clear kz
 go_upto_region 2 with (fail)
 have HR4:=hid r4
 have HB2:=hid (HB1.out.trans (b4.mono HB1.out.size))
 clear hst hlc r4 b4 HB1
 generalize w1.alloc (.cells (scells s).toArray 69)=w2 at *
 generalize w1.heap.size=x4 at *
 go_wp2_with (first | (refine wpList_load_row rfl 69 (.tmp 4) rfl x4 rfl _ (scells s).toArray _ _ HR4.out Tryz.underlying69 rfl (Su.size_scells _) ?_))
 refine (pagesOf_any (HD.out.below HB2.out) hg HOK.out HO.out.pages).mono ?_
 rintro e w3 ⟨g1,g3,c3,g,rfl,r1,r3,rg,l1o,l3o,lgo,kz⟩
 have HG:=hid (And.intro r1 (And.intro r3 (And.intro rg (And.intro HO.out.pages.n (And.intro HO.out.pages.len1 HO.out.pages.len2)))))
 have HL:=hid (show w.heap.size≤g1∧w.heap.size≤g3 from ⟨Nat.le_trans HB2.out.size l1o,Nat.le_trans HB2.out.size l3o⟩)
 have HR5:=hid (HR4.out.below HR4.out.lt kz)
 have HB3:=hid (HB2.out.trans (kz.mono HB2.out.size))
 clear r1 r3 rg l1o l3o lgo kz HR4 HB2
 have hz:=sheet_zero
 have r6:=alloc_rowV w3 65 [.slice (some ⟨g1,0,none⟩) l1.length l1.length,.slice (some ⟨g3,0,none⟩) l2.length c3]
 have b6:=(Below.refl w3.heap.size w3).alloc (Nat.le_refl _) (.cells #[.slice (some ⟨g1,0,none⟩) l1.length l1.length,.slice (some ⟨g3,0,none⟩) l2.length c3] 65)
 go_upto_region 5 with (fail)
 have HR6:=hid r6
 have HR7:=hid (HR5.out.below HR5.out.lt b6)
 have HB4:=hid (HB3.out.trans (b6.mono HB3.out.size))
 have HG4:=hid (show RowV _ g1 3 (ints l1)∧(∃sp,RowV _ g3 3 (ints l2++sp))∧RowV _ g 34 (nums W)∧W.length=D.n∧l1.length=pg D.n∧l2.length=pg (pg D.n) from
  ⟨HG.out.1.below HG.out.1.lt b6,HG.out.2.1.imp (fun _ h=>h.below h.lt b6),HG.out.2.2.1.below HG.out.2.2.1.lt b6,HG.out.2.2.2⟩)
 clear r6 b6 hz HR5 HB3 HG
 generalize w3.alloc (.cells #[.slice (some ⟨g1,0,none⟩) l1.length l1.length,.slice (some ⟨g3,0,none⟩) l2.length c3] 65)=w4 at *
 generalize w3.heap.size=x6 at *
 go_wp2_with fail
 refine (Tl.of_yes HG4.out.2.2.1.has.told rfl (by have:=HN.out; have:=HG4.out.2.2.2.1; omega) (by have:=HN.out; have:=HG4.out.2.2.2.1; omega)).mono ?_
 rintro e w5 ⟨ta,cb,mb,c,rfl,hF⟩
 have HF:=hid hF
 have q0:=(HR6.out.below HR6.out.lt hF.below).cellAt (i:=0) rfl
 have q1:=(HR6.out.below HR6.out.lt hF.below).cellAt (i:=1) rfl
 clear hF
 go_wp2_with fail
 refine (right_is HF.out.at' (HG4.out.1.below HG4.out.1.lt HF.out.below).has.told (has_told (HG4.out.2.1.imp fun _ h=>h.below h.lt HF.out.below)) HO.out.right rfl rfl (by show W.length≤4096; have:=HN.out; have:=HG4.out.2.2.2.1; omega)).mono ?_
 rintro e w6 ⟨rfl,kz⟩
 have HF6:=hid (show Tl.At w6 ta cb mb c (Tl.St.of W)∧w4.heap.size≤ta∧w4.heap.size≤cb∧w4.heap.size≤mb∧Below w4.heap.size w4 w6 from ⟨HF.out.at'.kept kz,HF.out.ha,HF.out.hc,HF.out.hm,HF.out.below.trans (kz.mono HF.out.below.size)⟩)
 clear kz HF q0 q1
 go_wp2_with fail
 refine (pnew_yes HF6.out.1 2 (by show 2≤W.length; have:=HN.out; have:=HG4.out.2.2.2.1; omega)).mono ?_
 rintro e w7 ⟨p,rfl,hP7⟩
 have HP7:=hid (show PAt w7 p ta cb mb c ⟨Tl.St.of W,2,2,0⟩∧w4.heap.size≤p∧Below w4.heap.size w4 w7 from ⟨hP7.at',Nat.le_trans HF6.out.2.2.2.2.size hP7.hp,HF6.out.2.2.2.2.trans (hP7.below.mono HF6.out.2.2.2.2.size)⟩)
 clear hP7
 have HR8:=hid (HR7.out.below HR7.out.lt HP7.out.2.2)
 have HS8:=hid (HR6.out.below HR6.out.lt HP7.out.2.2)
 have HG8:=hid (show RowV w7 g1 3 (ints l1)∧(∃sp,RowV w7 g3 3 (ints l2++sp)) from ⟨HG4.out.1.below HG4.out.1.lt HP7.out.2.2,HG4.out.2.1.imp (fun _ h=>h.below h.lt HP7.out.2.2)⟩)
 have q0:=HS8.out.cellAt (i:=0) rfl
 have q1:=HS8.out.cellAt (i:=1) rfl
 have hmm := @run_makeMap Tryz.prog
 have hzb:=base_zero
 have hfm:=fm_made w7
 have bfm:=(Below.refl w7.heap.size w7).alloc (Nat.le_refl _) (.map #[] 0)
 have sfm:(w7.alloc (.map #[] 0)).heap.size=w7.heap.size+1:=by simp
 obtain ⟨fm,hfmq⟩ : ∃x,x=w7.heap.size:=⟨_,rfl⟩
 obtain ⟨CS,hCS⟩ : ∃CS,CS=(bcells ⟨fm+1,ta,cb,mb,c,p,fm,d⟩ l1.length l2.length g1 l1.length g3 c3 s s).set 43 (.pointer none):=⟨_,rfl⟩
 have HBB:=hid (built_base ⟨fm+1,ta,cb,mb,c,p,fm,d⟩ l1.length l2.length g1 l1.length g3 c3 s)
 have hlen:CS.length=44:=by rw [hCS,List.length_set,length_bcells]
 have hone:CS.toArray.all (·.oneCell')=true:=by
  rw [Array.all_eq_true_iff_forall_mem]
  intro v hv
  rw [hCS] at hv
  exact bcells_one _ _ _ _ _ _ _ _ v (by simpa using hv)
 rw [← hCS] at HBB
 have HCS:=hid hCS
 clear hCS
 rw [← hfmq] at hfm bfm sfm
 have hst:=run_storeCells_new (P:=Tryz.prog) (w7.alloc (.map #[] 0)) 72 #[.pointer none,.pointer none,.pointer none,.slice none 0 0,.slice none 0 0,(.int .u64 0),(.int .u32 0),(.int .u32 0),(.int .u32 0),(.int .u32 0),(.int .u32 0),(.int .u32 0),(.int .u32 0),(.int .u32 0),(.int .u32 0),(.int .u64 0),(.int .u64 0),(.int .u64 0),(.int .u64 0),(.int .u64 0),(.int .u64 0),(.int .u64 0),(.int .u64 0),(.int .u64 0),(.int .u32 0),(.int .u32 0),(.int .u32 0),(.int .u32 0),(.int .u32 0),(.int .u32 0),(.int .u32 0),(.int .u32 0),(.int .u32 0),(.int .u64 0),(.int .u64 0),(.int .u64 0),(.int .u64 0),(.int .u64 0),(.int .u64 0),(.int .u64 0),(.int .u64 0),.map none,.bool false,.pointer none] CS.toArray (by rw [base_size]; simp [hlen]) (by simp [hlen]) hone
 have HM:=hid (And.intro hfm (And.intro bfm sfm))
 have HFQ:=hid hfmq
 clear hfm bfm sfm
 have hbb:=HBB.out
 dsimp only at hbb
 rw [hfmq] at hbb
 replace HBB:=hid hbb
 clear hfmq hbb
 go_upto_region 11 with (fail)
 go_upto_region 12 with (first | (refine wpList_load_row rfl 69 (.tmp 4) rfl x4 rfl _ (scells s).toArray _ _ HR8.out Tryz.underlying69 rfl (Su.size_scells _) ?_) | (refine Su.wpList_build_as rfl 72 #[(0,.tmp 45),(1,.tmp 46),(2,.tmp 47),(3,.tmp 48),(4,.tmp 49),(5,.tmp 50),(6,.tmp 51)] rfl CS.toArray ?_ ?_; (simp [Act.eval]); exact HBB.out))
 clear q0 q1 hmm hzb hst
 have r9:=alloc_rowV (w7.alloc (.map #[] 0)) 72 CS
 have b9:=(Below.refl (w7.alloc (.map #[] 0)).heap.size _).alloc (Nat.le_refl _) (.cells CS.toArray 72)
 have sz:=HM.out.2.2
 rw [sz] at r9 b9
 rw [← HFQ.out]
 have HK:=hid (show FMap (w7.alloc (.map #[] 0)) fm (fun _=>none)∧Below fm w7 (w7.alloc (.map #[] 0))∧(w7.alloc (.map #[] 0)).heap.size=fm+1 from HM.out)
 have hq43:CS[43]?=some (.pointer none):=by rw [HCS.out]; exact List.getElem?_set_self (by rw [length_bcells]; omega)
 have q43:=r9.cellAt hq43
 have f43:=r9.free 43
 have HR9:=hid r9
 have HB9:=hid b9
 clear r9 b9 hq43 sz HM HBB hlen hone
 generalize (w7.alloc (.map #[] 0)).alloc (.cells CS.toArray 72)=w9 at *
 generalize w7.alloc (.map #[] 0)=w8 at *
 go_wp2_with fail
 have HR10:=hid (HR9.out.set 43 (.pointer (some ⟨fm+1,0,none⟩)))
 have HU:=hid (ButL.set w9 (fm+1) 43 (.pointer (some ⟨fm+1,0,none⟩)))
 generalize w9.setCell ⟨fm+1,43,none⟩ (.pointer (some ⟨fm+1,0,none⟩))=w10 at *
 go_ret2
 have hfq:=HFQ.out
 have s8:=HK.out.2.2
 have B810:Below (fm+1) w8 w10:=HB9.out.trans (HU.out.below (by simp) (by have:=HB9.out.size; omega))
 have B710:Below fm w7 w10:=HK.out.2.1.trans (B810.mono (by omega))
 have B410:Below w4.heap.size w4 w10:=HP7.out.2.2.trans (B710.mono (by rw [hfq]; exact HP7.out.2.2.size))
 have BA:Below w.heap.size w w10:=HB4.out.trans (B410.mono HB4.out.size)
 have s47:=HP7.out.2.2.size
 have s4:=HB4.out.size
 have hlist : ∀k∈(⟨fm+1,ta,cb,mb,c,p,fm,d⟩:Adr).list,w.heap.size≤k:=by
  have a1:=HF6.out.2.2.1
  have a2:=HF6.out.2.2.2.1
  have a3:=HP7.out.2.1
  simp only [Adr.list,List.mem_cons,List.not_mem_nil,or_false]
  rintro k (rfl | rfl | rfl | rfl | rfl) <;> omega
 refine ⟨⟨fm+1,ta,cb,mb,c,p,fm,d⟩,rfl,rfl,hlist,⟨⟨g1,l1.length,g3,c3,?_,⟨[],?_⟩,?_⟩,?_,?_,HD.out.below BA,?_,fun k hk hpr=>absurd (HP.out k hpr) (Nat.not_lt.2 (hlist k hk)),fun k hpr=>Nat.lt_of_lt_of_le (HP.out k hpr) BA.size⟩,BA⟩
 ·have h:=HR10.out
  rw [HCS.out,List.set_set] at h
  rwa [List.set_getElem?_self' (bc43 _ _ _ _ _ _ _ _ _)] at h
 ·rw [List.append_nil]; exact HG8.out.1.below (by have:=HG8.out.1.lt; omega) B710
 ·exact HG8.out.2.imp fun _ h=>h.below (by have:=h.lt; omega) B710
 ·exact HP7.out.1.kept (by rw [← hfq]; exact B710)
 ·exact HK.out.1.keep (B810.block fm (by omega)) fun g bs hb=>hb.below (by have:=hb.lt; omega) B810
 ·have:=HP7.out.1.tally.mp.lt
  show mb≠fm
  omega
end Go.Proofs.YtogchamogbendaaGreat.Bs
namespace Go.Proofs.YtogchamogbendaaGreat.Bs
open Go.RowKit Oct Mv Tl Pk Pl Go.Maps Go.ChangeMaps
open Dsk (dT)
open Su (Sup nth scells scell psup perr pslot zero18)
open Ix (idxPage idxBody wvals Wd OwnW DecYes)
def lastStep (p:Nat) (o:Option (List UInt8)):Stp→Option (List UInt8)
 | .w q bs=>if q=p then some bs else o
 | .f=>o
def lastW (l:List Stp) (p:Nat):Option (List UInt8):=l.foldl (lastStep p) none
theorem lastStep_w (p:Nat) (o:Option (List UInt8)) (q:Nat) (bs:List UInt8):lastStep p o (.w q bs)=if q=p then some bs else o:=rfl
theorem lastStep_or (p:Nat) (o:Option (List UInt8)) (s:Stp):lastStep p o s=(lastStep p none s).or o:=by
 cases s with
 | w q bs =>
  rw [lastStep_w,lastStep_w]
  by_cases h:q=p
  ·rw [if_pos h,if_pos h]; rfl
  ·rw [if_neg h,if_neg h]; cases o <;> rfl
 | f=>cases o <;> rfl
theorem foldl_last (p:Nat) : ∀(l:List Stp) (o:Option (List UInt8)),l.foldl (lastStep p) o=(l.foldl (lastStep p) none).or o
 | [],o=>by cases o <;> rfl
 | s :: l,o=>by
  rw [List.foldl_cons,List.foldl_cons,foldl_last p l (lastStep p o s),foldl_last p l (lastStep p none s),lastStep_or p o s,Option.or_assoc]
theorem lastW_app (l m:List Stp) (p:Nat):lastW (l++m) p=(lastW m p).or (lastW l p):=by
 unfold lastW
 rw [List.foldl_append]
 exact foldl_last p m _
theorem lastW_map (at_:Nat→Nat) (pg_:Nat→List UInt8) : ∀(k:List Nat),(∀i∈k,∀j∈k,at_ i=at_ j→i=j) → ∀p,lastW (k.map fun i=>Stp.w (at_ i) (pg_ i)) p=(k.find? fun i=>at_ i==p).map pg_
 | [],_,p=>rfl
 | i :: k,h,p=>by
  have ih:=lastW_map at_ pg_ k (fun a ha b hb=>h a (List.mem_cons_of_mem _ ha) b (List.mem_cons_of_mem _ hb)) p
  rw [List.map_cons,show Stp.w (at_ i) (pg_ i) :: k.map (fun i=>Stp.w (at_ i) (pg_ i)) = [Stp.w (at_ i) (pg_ i)]++k.map (fun i=>Stp.w (at_ i) (pg_ i)) from rfl,lastW_app,ih,List.find?_cons]
  by_cases e:at_ i=p
  ·have hn:(k.find? fun i=>at_ i==p)=none∨i∈k:=by
    by_cases hi:i∈k
    ·exact .inr hi
    ·refine .inl (List.find?_eq_none.2 fun j hj => ?_)
     intro ej
     have:=h i (List.mem_cons_self ..) j (List.mem_cons_of_mem _ hj) (by rw [e]; exact (by simpa using ej:at_ j=p).symm)
     exact hi (this▸hj)
   have e1:(at_ i==p)=true:=by simp [e]
   rw [e1]
   rcases hn with hn | hn
   ·rw [hn]
    show (none:Option (List UInt8)).or (lastStep p none (.w (at_ i) (pg_ i)))=some (pg_ i)
    rw [lastStep_w,if_pos e]
    rfl
   ·cases hf:k.find? fun i=>at_ i==p with
    | none =>
     have:=List.find?_eq_none.1 hf i hn
     exact absurd e1 this
    | some j =>
     have hj:=List.mem_of_find?_eq_some hf
     have ej:(at_ j==p)=true:=List.find?_some (p:=fun i=>at_ i==p) hf
     have:=h i (List.mem_cons_self ..) j (List.mem_cons_of_mem _ hj) (by rw [e]; exact (by simpa using ej:at_ j=p).symm)
     subst this
     rfl
  ·have e1:(at_ i==p)=false:=by simp [e]
   rw [e1]
   show ((k.find? fun i=>at_ i==p).map pg_).or (lastStep p none (.w (at_ i) (pg_ i)))=_
   rw [lastStep_w,if_neg e]
   cases (k.find? fun i=>at_ i==p).map pg_ <;> rfl
theorem find_at {at_:Nat→Nat} {k:List Nat} (h : ∀i∈k,∀j∈k,at_ i=at_ j→i=j) {i:Nat} (hi:i∈k):(k.find? fun j=>at_ j==at_ i)=some i:=by
 cases hf:k.find? fun j=>at_ j==at_ i with
 | none=>exact absurd (by simp:(at_ i==at_ i)=true) (List.find?_eq_none.1 hf i hi)
 | some j =>
  have ej:(at_ j==at_ i)=true:=List.find?_some (p:=fun j=>at_ j==at_ i) hf
  rw [h j (List.mem_of_find?_eq_some hf) i hi (by simpa using ej)]
theorem find_not {at_:Nat→Nat} {k:List Nat} {p:Nat} (h : ∀i∈k,at_ i≠p):(k.find? fun j=>at_ j==p)=none :=
 List.find?_eq_none.2 fun j hj=>by simp [h j hj]
structure Lok (D:Dsk.St):Prop where
 len:D.B.length=D.n*128
 wait : ∀x,x∈D.W→x.1<D.n∧x.2.length=128
def Stp.fit (n:Nat):Stp→Prop
 | .w p bs=>p<n∧bs.length=128
 | .f=>True
theorem Lok.flushed {D:Dsk.St} (h:Lok D) (hc:Calm D):Lok D.flushed:=by
 have e:D.flushed = { Dsk.laid D (fun _=>128) D.W.length with W := [] }:=by unfold Dsk.St.flushed; rw [Dsk.calm_spent hc.gone hc.armed]
 refine ⟨?_,fun x hx=>by rw [w_flushed] at hx; cases hx⟩
 rw [n_flushed hc,e]
 exact Dsk.laid_len D _ _ h.len h.wait
theorem stand_flushed' {D:Dsk.St} (hc:Calm D) (h:Lok D) (p:Nat) (hp:p<D.n):D.flushed.stand p=D.says p:=by
 have e:D.flushed = { Dsk.laid D (fun _=>128) D.W.length with W := [] }:=by unfold Dsk.St.flushed; rw [Dsk.calm_spent hc.gone hc.armed]
 rw [e]
 have:=Dsk.stand_whole D (fun _=>128) D.W.length h.len h.wait (fun _ _=>Nat.le_refl _) p hp (Nat.le_refl _)
 rw [List.take_length] at this
 exact this
theorem says_step {D:Dsk.St} (hc:Calm D) (h:Lok D) (s:Stp) (hf:Stp.fit D.n s) (p:Nat) (hp:p<D.n):(doStep D s).says p=(lastStep p none s).getD (D.says p)∧Lok (doStep D s):=by
 cases s with
 | w q bs =>
  refine ⟨?_,⟨h.len,fun x hx => ?_⟩⟩
  ·show (D.wrote q bs).says p=_
   rw [says_wrote]
   rw [lastStep_w]
   by_cases e:q=p
   ·rw [if_pos e,if_pos e]; rfl
   ·rw [if_neg e,if_neg e]; rfl
  ·rcases List.mem_append.1 (show x∈D.W ++ [(q,bs)] from hx) with k | k
   ·exact h.wait x k
   ·rw [List.mem_singleton] at k
    subst k
    exact hf
 | f=>exact ⟨by show D.flushed.says p=_; rw [says_still (w_flushed D),stand_flushed' hc h p hp]; rfl,h.flushed hc⟩
theorem says_steps : ∀(l:List Stp) (D:Dsk.St),Calm D→Lok D→(∀s∈l,Stp.fit D.n s)→(Lok (doSteps D l)) ∧ ∀p,p<D.n→(doSteps D l).says p=(lastW l p).getD (D.says p)
 | [],D,_,h,_=>⟨h,fun p _=>rfl⟩
 | s :: l,D,hc,h,hf=>by
  have hn:=doStep_n hc s
  by_cases h0:0<D.n
  ·have h1:=fun p hp=>(says_step hc h s (hf s (List.mem_cons_self ..)) p hp).1
   have h2:=(says_step hc h s (hf s (List.mem_cons_self ..)) 0 h0).2
   obtain ⟨k1,k2⟩:=says_steps l (doStep D s) (doStep_calm hc s) h2 (fun t ht=>by rw [hn]; exact hf t (List.mem_cons_of_mem _ ht))
   refine ⟨k1,fun p hp => ?_⟩
   show (doSteps (doStep D s) l).says p=_
   rw [k2 p (by rw [hn]; exact hp),h1 p hp,show (s :: l) = [s]++l from rfl,lastW_app]
   show (lastW l p).getD ((lastStep p none s).getD (D.says p))=((lastW l p).or (lastStep p none s)).getD (D.says p)
   cases lastW l p <;> rfl
  ·have hs:s = .f ∨ ∃q bs,s = .w q bs:=by cases s with
    | w q bs=>exact .inr ⟨q,bs,rfl⟩
    | f=>exact .inl rfl
   rcases hs with rfl | ⟨q,bs,rfl⟩
   ·obtain ⟨k1,_⟩:=says_steps l (doStep D .f) (doStep_calm hc _) (h.flushed hc) (fun t ht=>by rw [hn]; exact hf t (List.mem_cons_of_mem _ ht))
    exact ⟨k1,fun p hp=>absurd hp (by omega)⟩
   ·have:=(hf _ (List.mem_cons_self ..)).1
    exact absurd this (by omega)
theorem part_now (s:Tl.St) (i:Nat):ptW s.now i=Pl.part s i:=by
 unfold ptW Pl.part Pl.many
 apply List.ext_getElem
 ·simp [Tl.St.n]
 ·intro j h1 h2
  simp only [List.getElem_take,List.getElem_drop,List.getElem_map,List.getElem_range]
  unfold Tl.St.cnt
  rw [List.getD_eq_getElem?_getD,List.getElem?_eq_getElem (by simp at h1; omega)]
  rfl
theorem dir_now (l:List Nat) (i:Nat):ptW (l.map UInt16.ofNat) i=dirW l i:=by
 unfold ptW dirW
 rw [List.map_take,List.map_drop]
theorem format_opens {n:Nat} {y:Wk} {D:Dsk.St} (h1:16≤n) (h2:n≤400) (hr:(Pl.begin (q0 n) (zeros (pg n)) (zeros (pg (pg n)))).Runs y) (hc:Calm D) (hl:Lok D) (hn:D.n=n) :
  Opens (doSteps D (fmtSteps n y)) (leadS (sup0 n) y.l2) y.l1 y.l2 y.q.s.now:=by
 obtain ⟨hs,hyn,_,hc1⟩:=sound0 h1 h2 hr
 have hf:=fmtY h1 h2 hr
 have hok:(q0 n).Ok:=⟨.new (by omega) (by omega),by show 2≤(St.new n).n; rw [n_new]; omega,Nat.le_refl _,.inr rfl,Nat.zero_le _⟩
 have hg:=q0_good h1 h2
 have hb:Pl.Base (q0 n) (zeros (pg n)++zeros (pg (pg n))):=⟨fun i _ h=>absurd (by rw [zeros_app,zeros_get]) h,by show 1≤2; omega⟩
 have hri:=begin_ri (q:=q0 n) (l1:=zeros (pg n)) (l2:=zeros (pg (pg n))) (fun i _ h=>absurd (by rw [zeros_app,zeros_get]) h)
 have hr2:=hr.ri hg hb hri
 have hgy:=hf.good
 have hone : ∀i,i<(y.l1++y.l2).length→(y.l1++y.l2).getD i 0≠0∧(y.l1++y.l2).getD i 0<n∧y.q.s.cnt ((y.l1++y.l2).getD i 0)=1:=fun i hi=>by
  have:=hs.one i hi
  exact ⟨this.1,by have e:(Q.keep y.q).s.n=y.q.s.n:=rfl; omega,this.2.2.1⟩
 have hall : ∀i,i<(y.l1++y.l2).length→(y.f1++y.f2).getD i false=true:=fun i hi=>by
  rcases Bool.eq_false_or_eq_true ((y.f1++y.f2).getD i false) with e | e
  ·exact e
  ·have:=(hr2.un i hi e).1
   rw [zeros_app,zeros_get] at this
   exact absurd this (hone i hi).1
 have hd1 : ∀i,i<y.l1.length→i∈doneL y.f1:=fun i hi=>by
  rw [mem_done]
  have:=hall i (by rw [List.length_append]; omega)
  rwa [getD_app1 _ _ _ (by rw [hgy.fl1]; exact hi)] at this
 have hd2 : ∀i,i<y.l2.length→i∈doneL y.f2:=fun i hi=>by
  rw [mem_done]
  have:=hall (y.l1.length+i) (by rw [List.length_append]; omega)
  rwa [← hgy.fl1,getD_app2] at this
 have hlo : ∀i,i<(y.l1++y.l2).length→2≤(y.l1++y.l2).getD i 0:=fun i hi=>by
  have k1:=(hone i hi).1
  have k2:=(hone i hi).2.2
  have k3:(y.l1++y.l2).getD i 0≠1:=fun e=>by
   rw [e,hc1] at k2
   exact absurd k2 (by decide)
  omega
 have e1 : ∀i,i<y.l1.length→(y.l1++y.l2).getD i 0=y.l1.getD i 0:=fun i hi=>getD_app1 _ _ _ hi
 have e2 : ∀i,(y.l1++y.l2).getD (y.l1.length+i) 0=y.l2.getD i 0:=fun i=>getD_app2 _ _ _ _
 have in1 : ∀i∈doneL y.f1,i<y.l1.length:=fun i hi=>by have:=mem_done_lt hi; rw [hgy.fl1] at this; exact this
 have in2 : ∀i∈doneL y.f2,i<y.l2.length:=fun i hi=>by have:=mem_done_lt hi; rw [hgy.fl2] at this; exact this
 have inj1 : ∀i∈doneL y.f1,∀j∈doneL y.f1,y.l1.getD i 0=y.l1.getD j 0→i=j:=fun i hi j hj e=>by
  by_cases h:i=j
  ·exact h
  ·have k1:=in1 i hi
   have k2:=in1 j hj
   have:=hs.ne i j (by rw [List.length_append]; omega) (by rw [List.length_append]; omega) h
   rw [e1 i k1,e1 j k2] at this
   exact absurd e this
 have inj2 : ∀i∈doneL y.f2,∀j∈doneL y.f2,y.l2.getD i 0=y.l2.getD j 0→i=j:=fun i hi j hj e=>by
  by_cases h:i=j
  ·exact h
  ·have k1:=in2 i hi
   have k2:=in2 j hj
   have:=hs.ne (y.l1.length+i) (y.l1.length+j) (by rw [List.length_append]; omega) (by rw [List.length_append]; omega) (by omega)
   rw [e2 i,e2 j] at this
   exact absurd e this
 have cross : ∀i,i<y.l1.length → ∀j,j<y.l2.length→y.l1.getD i 0≠y.l2.getD j 0:=fun i hi j hj=>by
  have:=hs.ne i (y.l1.length+j) (by rw [List.length_append]; omega) (by rw [List.length_append]; omega) (by omega)
  rwa [e1 i hi,e2 j] at this
 have hl2:y.l2.length≤2:=by rw [hf.len2]; unfold pg; omega
 have hs18:(sup0 n).length=18:=by simp [sup0]
 have hlt32 : ∀x∈y.l2,x<4294967296:=fun x hx=>by have:=hf.lt2 x hx; omega
 have hsok:=sup0_ok (n:=n) (by omega) hl2 hlt32
 have hsfit:=sup0_fit h1 (by omega) hl2 hf.lt2
 have hgen:nth (leadS (sup0 n) y.l2) 0=1:=by rw [leadS_low hs18 0 (by omega)]; rfl
 have hblk:nth (leadS (sup0 n) y.l2) 1=n:=by rw [leadS_low hs18 1 (by omega)]; rfl
 have hfit : ∀t∈fmtSteps n y,Stp.fit D.n t:=fun t ht=>by
  rw [hn]
  have hlt:=fmt_ok hf h1 t ht
  cases t with
  | f=>trivial
  | w p bs =>
   refine ⟨hlt,?_⟩
   unfold fmtSteps at ht
   rcases List.mem_append.1 ht with ht | ht
   ·rcases List.mem_append.1 ht with ht | ht
    ·simp [z128] at ht
     rcases ht with ⟨_,rfl⟩ | ⟨_,rfl⟩ <;> simp
    ·rcases List.mem_append.1 ht with ht | ht
     ·unfold cntSteps at ht
      obtain ⟨i,_,e⟩:=List.mem_map.1 ht
      injection e with _ e
      rw [← e]
      exact Ix.length_idxPage _ _ (part_le _ _)
     ·unfold dirSteps at ht
      obtain ⟨i,_,e⟩:=List.mem_map.1 ht
      injection e with _ e
      rw [← e]
      exact Ix.length_idxPage _ _ (by rw [length_dirW]; omega)
   ·unfold finSteps at ht
    simp at ht
    rw [ht.2]
    exact Su.length_supPage _
 obtain ⟨_,says⟩:=says_steps (fmtSteps n y) D hc hl hfit
 have hDn:(doSteps D (fmtSteps n y)).n=n:=((doSteps_all _ D hc).1).trans hn
 have hlast : ∀p,lastW (fmtSteps n y) p=((if 1=p then some (Su.supPage (leadS (sup0 n) y.l2)) else none).or ((((doneL y.f2).find? fun j=>y.l2.getD j 0==p).map fun i=>idxPage 4 (dirW y.l1 i)).or (((doneL y.f1).find? fun j=>y.l1.getD j 0==p).map fun i=>idxPage 5 (Pl.part y.q.s i)))).or (if 1=p then some z128 else if 0=p then some z128 else none):=fun p=>by
  unfold fmtSteps
  rw [lastW_app,lastW_app,lastW_app]
  unfold cntSteps dirSteps
  rw [lastW_map (fun i=>y.l1.getD i 0) (fun i=>idxPage 5 (Pl.part y.q.s i)) _ inj1,lastW_map (fun i=>y.l2.getD i 0) (fun i=>idxPage 4 (dirW y.l1 i)) _ inj2]
  have a1:lastW (finSteps (leadS (sup0 n) y.l2)) p=if 1=p then some (Su.supPage (leadS (sup0 n) y.l2)) else none:=by
   unfold finSteps lastW
   rw [hgen]
   simp only [List.foldl_cons,List.foldl_nil,lastStep]
  have a2:lastW [Stp.w 0 z128,Stp.w 1 z128,Stp.f] p=if 1=p then some z128 else if 0=p then some z128 else none:=by
   unfold lastW
   simp only [List.foldl_cons,List.foldl_nil,lastStep]
  rw [a1,a2]
  simp only [Option.or_assoc]
 have s1:(doSteps D (fmtSteps n y)).says 1=Su.supPage (leadS (sup0 n) y.l2):=by
  rw [says 1 (by omega),hlast 1,if_pos rfl]
  rfl
 have s0:(doSteps D (fmtSteps n y)).says 0=z128:=by
  rw [says 0 (by omega),hlast 0,if_neg (by omega),if_neg (by omega),if_pos rfl]
  rw [find_not (fun i hi=>by have k:=hlo (y.l1.length+i) (by rw [List.length_append]; have:=in2 i hi; omega); rw [e2 i] at k; omega)]
  rw [find_not (fun i hi=>by have k:=hlo i (by rw [List.length_append]; have:=in1 i hi; omega); rw [e1 i (in1 i hi)] at k; omega)]
  rfl
 have sa : ∀i,i<y.l1.length→(doSteps D (fmtSteps n y)).says (y.l1.getD i 0)=idxPage 5 (Pl.part y.q.s i):=fun i hi=>by
  have k:=hlo i (by rw [List.length_append]; omega)
  have kn:=(hone i (by rw [List.length_append]; omega)).2.1
  rw [e1 i hi] at k kn
  rw [says _ (by omega),hlast _,if_neg (by omega),if_neg (by omega),if_neg (by omega)]
  rw [find_not (fun j hj=>(cross i hi j (in2 j hj)).symm),find_at inj1 (hd1 i hi)]
  rfl
 have sb : ∀i,i<y.l2.length→(doSteps D (fmtSteps n y)).says (y.l2.getD i 0)=idxPage 4 (dirW y.l1 i):=fun i hi=>by
  have k:=hlo (y.l1.length+i) (by rw [List.length_append]; omega)
  have kn:=(hone (y.l1.length+i) (by rw [List.length_append]; omega)).2.1
  rw [e2 i] at k kn
  rw [says _ (by omega),hlast _,if_neg (by omega),if_neg (by omega),if_neg (by omega)]
  rw [find_at inj2 (hd2 i hi)]
  rfl
 have hlater:Su.Later z128 (Su.supPage (leadS (sup0 n) y.l2)):=⟨(Su.counts_page hsok hsfit 1).2 (by rw [hgen]),fun h=>Su.none_zeros 0 (by decide) h.1.1⟩
 refine ⟨⟨?_,?_⟩,by rw [hblk,hDn],⟨?_,by rw [hDn]; omega,by rw [hDn]; exact h1,by rw [hDn]; exact hf.len1,by rw [hDn]; exact hf.len2,?_,?_,?_⟩,?_⟩
 ·rw [s0,s1]
  unfold psup
  rw [if_pos hlater]
  exact Su.sIn_page hsok
 ·rw [s0,s1]
  unfold perr
  rw [if_pos hlater]
 ·rw [hDn]
  exact hyn
 ·intro j hj
  by_cases hj2:j<y.l2.length
  ·rw [leadS_mid hs18 j hj2,List.getD_eq_getElem?_getD,List.getElem?_eq_getElem hj2]
   rfl
  ·rw [leadS_high hs18 hl2 (2+j) (by omega),List.getD_eq_getElem?_getD,List.getElem?_eq_none (by omega)]
   match j,hj with
   | 0,_=>rfl
   | 1,_=>rfl
 ·intro i hi
  have k:=hlo (y.l1.length+i) (by rw [List.length_append]; omega)
  have kn:=(hone (y.l1.length+i) (by rw [List.length_append]; omega)).2.1
  rw [e2 i] at k kn
  exact ⟨k,by rw [hDn]; exact kn,by rw [sb i hi,dir_now]⟩
 ·intro i hi
  have k:=hlo i (by rw [List.length_append]; omega)
  have kn:=(hone i (by rw [List.length_append]; omega)).2.1
  rw [e1 i hi] at k kn
  exact ⟨k,by rw [hDn]; exact kn,by rw [sa i hi,part_now]⟩
 ·exact hs.right
end Go.Proofs.YtogchamogbendaaGreat.Bs
namespace Go.Proofs.YtogchamogbendaaGreat.Pl
open Go.RowKit Oct Mv Tl Pk Go.Maps
section
variable {q:Q} {l1 l2:List Nat} {x y z:Wk}
end
end Go.Proofs.YtogchamogbendaaGreat.Pl
namespace Go.Proofs.YtogchamogbendaaGreat.Bs
open Go.RowKit Oct Mv Tl Pk Pl Go.Maps Go.ChangeMaps Go.Sort Go.Shelf
open Dsk (dT)
open Su (Sup nth scells scell)
end Go.Proofs.YtogchamogbendaaGreat.Bs
namespace Go.Proofs.YtogchamogbendaaGreat.Bs
open Go.RowKit Oct Mv Tl Pk Pl Go.Maps Go.ChangeMaps
open Dsk (dT)
open Su (Sup nth scells scell)
end Go.Proofs.YtogchamogbendaaGreat.Bs
namespace Go.Proofs.YtogchamogbendaaGreat.Bs
open Go.RowKit Oct Mv Tl Pk Pl Go.Maps Go.ChangeMaps
open Dsk (dT)
open Su (Sup nth scells scell psup perr pslot zero18)
open Ix (idxPage idxBody wvals Wd OwnW DecYes)
theorem set_nth {s:Sup} (hs:s.length=18) (i v j:Nat) (hi:i<18):nth (s.set i v) j=if j=i then v else nth s j:=by
 unfold nth
 rw [Pl.getD_set]
 by_cases e:j=i
 ·rw [if_pos ⟨e,by omega⟩,if_pos e]
 ·rw [if_neg (fun k=>e k.1),if_neg e]
structure Good (x:BS):Prop where
 sd:Sound x.q x.l1 x.l2
 lo:16≤x.n
 hi:x.n≤4096
 room:need x.n≤x.q.room
 dn:x.D.n=x.n
 calm:Calm x.D
 lok:Lok x.D
 still:x.D.W = []
 nok:Su.Ok x.now
 nfit:Su.Fit x.now
 kok:Su.Ok x.kept
 kfit:Su.Fit x.kept
 n1:nth x.now 1=x.n
 gen:nth x.now 0=nth x.kept 0
 root : ∀j,j<2→nth x.now (2+j)=x.l2.getD j 0
 fr : ∀i bs,x.fr i=some bs→2≤i∧i<x.n∧x.q.s.was i=0∧x.q.s.cnt i≠0∧bs.length=128
 opens:Opens x.D x.kept x.l1 x.l2 x.q.s.kept
 slot:x.D.says (nth x.kept 0 % 2)=Su.supPage x.kept
section
variable {x:BS} {y:Wk}
theorem steps_still (D:Dsk.St) (l:List Stp):(doSteps D (l ++ [.f])).W = []:=by rw [doSteps_snoc]; exact w_flushed _
end
end Go.Proofs.YtogchamogbendaaGreat.Bs
