import Derived.StillTailTactics
import Derived.Deep.QuietTactic
import Derived.BigQuiet
import Derived.RangeFuncBox
import Derived.RangeFuncLeaves
import Derived.RangeFuncCalls
import Derived.Shelf.Abstract
import Derived.Shelf.RegionOpen
import Derived.OwnWalkIn
import Derived.TacticsInMore
import Derived.LoopNIn
import Derived.LoopIn
import Derived.Maps.AppendAt
import Derived.RangeFuncNested
import Derived.Test.YtogchamogbendaaGreatQtl
import Derived.Test.YtogchamogbendaaGreatQtm
set_option maxRecDepth 100000
set_option linter.unusedVariables false
set_option linter.unusedSimpArgs false
namespace Go.Proofs.YtogchamogbendaaGreat.Ix
open Go.RowKit Oct Sf
theorem u16_lt (x:UInt16):x.toNat<65536:=x.toNat_lt
def wvals (l:List UInt16):List Value:=l.map fun n => .int .u16 (n.toNat:Int)
theorem length_wvals (l:List UInt16):(wvals l).length=l.length:=by simp [wvals]
theorem wvals_at (l:List UInt16) (i:Nat) (h:i<l.length):(wvals l)[i]?=some (.int .u16 ((l[i]).toNat:Int)):=by simp [wvals,h]
theorem wvals_append (x y:List UInt16):wvals (x++y)=wvals x++wvals y:=by simp [wvals]
structure Wd (w:World) (A:Option Addr) (n c:Nat) (l:List UInt16):Prop where
 el:l.length=n
 kc:n≤c
 km:c≤maxLen
 ws:ToldV w A (wvals l)
theorem Wd.below {w w':World} {A:Option Addr} {n c:Nat} {l:List UInt16} (h:Wd w A n c l) (k:Below w.heap.size w w'):Wd w' A n c l:=⟨h.el,h.kc,h.km,h.ws.below k⟩
theorem Wd.at {w:World} {A:Option Addr} {n c k:Nat} {l:List UInt16} (h:Wd w A n c l) (hk:k<n) :
  ∃b o,A=some ⟨b,o,none⟩∧b<w.heap.size∧w.cell? ⟨b,o+k,none⟩=some (.int .u16 ((l[k]'(by rw [h.el]; exact hk)).toNat:Int)):=by
 have hl:=length_wvals l
 have he:=h.el
 obtain ⟨b,o,rfl,hb⟩:=h.ws.has (by omega)
 exact ⟨b,o,rfl,hb.lt (by omega),hb.cellAt (wvals_at l k (by omega))⟩
def nbytes:List UInt16→List UInt8
 | [] => []
 | n :: l=>bytesOf n.toNat 2++nbytes l
theorem length_nbytes (l:List UInt16):(nbytes l).length=2*l.length:=by
 induction l with
 | nil=>rfl
 | cons n l ih=>simp [nbytes,length_bytesOf,ih]; omega
theorem nbytes_snoc (l:List UInt16) (n:UInt16):nbytes (l ++ [n])=nbytes l++bytesOf n.toNat 2:=by
 induction l with
 | nil=>simp [nbytes]
 | cons x l ih=>simp [nbytes,ih]
def idxBody (l:List UInt16):List UInt8:=bytesOf l.length 1++nbytes l
theorem length_body (l:List UInt16):(idxBody l).length=1+2*l.length:=by simp [idxBody,length_bytesOf,length_nbytes]
def full (P:List UInt8):List UInt8:=P++List.replicate (123-P.length) 0
theorem length_full (P:List UInt8) (h:P.length≤123):(full P).length=123:=by simp [full]; omega
theorem full_put (P X:List UInt8) (s:Nat) (hX:X.length=s) (h:P.length+s≤123):(full P).take P.length++X++(full P).drop (P.length+s)=full (P++X):=by
 unfold full
 rw [List.take_append_of_le_length (Nat.le_refl _),List.take_length,List.drop_append,List.drop_of_length_le (by omega),List.nil_append,List.length_append,hX,List.drop_replicate]
 congr 2
 omega
theorem page_full (k:UInt8) (bs:List UInt8) (h:bs.length≤123):page k (full bs)=page k bs:=by
 have e:face k (full bs)=face k bs:=by
  unfold face full
  rw [List.length_append,List.length_replicate,show 123-(bs.length+(123-bs.length))=0 by omega,List.replicate_zero,List.append_nil]
 unfold page
 rw [e]
def idxPage (k:UInt8) (l:List UInt16):List UInt8:=page k (idxBody l)
theorem length_idxPage (k:UInt8) (l:List UInt16) (h:l.length≤61):(idxPage k l).length=128:=length_page _ _ (by rw [length_body]; omega)
def Fit (k:UInt8) (l:List UInt16):Prop:=(k=4∨k=5)∧l.length≤61
instance (k:UInt8) (l:List UInt16):Decidable (Fit k l):=by unfold Fit; infer_instance
def cAt (bs:List UInt8):Nat:=num (bs.take 1)
def wAt (bs:List UInt8) (j:Nat):UInt16:=UInt16.ofNat (num ((bs.drop (1+2*j)).take 2))
def bodyIn (ps:List UInt8):List UInt8:=(ps.drop 1).take 123
def wIn (ps:List UInt8):List UInt16:=(List.range (min (cAt (bodyIn ps)) 61)).map (wAt (bodyIn ps))
def Holds (k:UInt8) (ps:List UInt8):Prop:=ps.length=128∧Oct.Good ps∧(k=4∨k=5)∧idxPage k (wIn ps)=ps
theorem length_wIn (ps:List UInt8):(wIn ps).length=min (cAt (bodyIn ps)) 61:=by simp [wIn]
theorem wIn_le (ps:List UInt8):(wIn ps).length≤61:=by rw [length_wIn]; omega
theorem num_u16 (bs:List UInt8) (h:bs.length=2):(UInt16.ofNat (num bs)).toNat=num bs:=by
 have:=num_lt bs; rw [h] at this; simp; omega
theorem num_take1 (n:Nat) (h:n<256) (x:List UInt8):num ((bytesOf n 1++x).take 1)=n:=by
 rw [List.take_append_of_le_length (by simp [length_bytesOf]),List.take_of_length_le (by simp [length_bytesOf]),num_bytesOf]
 simpa using h
theorem drop_past (a b:List UInt8) (n k:Nat) (h:a.length=n):(a++b).drop (n+k)=b.drop k:=by
 subst h
 simp
theorem drop_nbytes (l:List UInt16) (j:Nat) (h:j<l.length) (x:List UInt8):((nbytes l++x).drop (2*j)).take 2=bytesOf (l[j]).toNat 2:=by
 induction l generalizing j with
 | nil=>simp at h
 | cons n l ih =>
  cases j with
  | zero =>
   simp only [nbytes,Nat.mul_zero,List.drop_zero,List.append_assoc,List.getElem_cons_zero]
   rw [List.take_append_of_le_length (by rw [length_bytesOf]; exact Nat.le_refl _),List.take_of_length_le (by rw [length_bytesOf]; exact Nat.le_refl _)]
  | succ j =>
   have e:(bytesOf n.toNat 2).length=2:=length_bytesOf 2 _
   simp only [nbytes,List.append_assoc,List.getElem_cons_succ]
   rw [show 2*(j+1)=2+2*j by omega,drop_past _ _ 2 _ e]
   exact ih j (by simpa using h)
theorem wAt_body (l:List UInt16) (j:Nat) (h:j<l.length) (x:List UInt8):wAt (idxBody l++x) j=l[j]:=by
 unfold wAt idxBody
 have e:(bytesOf l.length 1).length=1:=length_bytesOf 1 _
 rw [List.append_assoc,drop_past _ _ 1 _ e,drop_nbytes l j h x,num_bytesOf]
 apply UInt16.toNat_inj.1
 have:=u16_lt l[j]
 simp
theorem bodyIn_page (k:UInt8) (l:List UInt16) (h:l.length≤61):bodyIn (idxPage k l)=full (idxBody l):=by
 unfold bodyIn idxPage
 rw [page_body k _ (by rw [length_body]; omega)]
 rfl
theorem wIn_page (k:UInt8) (l:List UInt16) (h:l.length≤61):wIn (idxPage k l)=l:=by
 have hc:cAt (bodyIn (idxPage k l))=l.length:=by
  rw [bodyIn_page k l h]
  unfold cAt full idxBody
  rw [List.append_assoc]
  exact num_take1 _ (by omega) _
 unfold wIn
 rw [hc,bodyIn_page k l h]
 apply List.ext_getElem
 ·simp; omega
 ·intro i h1 h2
  simp only [List.getElem_map,List.getElem_range]
  exact wAt_body l i h2 _
theorem holds_page (k:UInt8) (l:List UInt16) (h:l.length≤61) (hk:k=4∨k=5):Holds k (idxPage k l) :=
 ⟨length_idxPage k l h,page_good k _ (by rw [length_body]; omega),hk,by rw [wIn_page k l h]⟩
end Go.Proofs.YtogchamogbendaaGreat.Ix
namespace Go.Proofs.YtogchamogbendaaGreat.Ix
open Lib (hid)
open Go.RowKit Oct Sf
theorem sdrew (w:World):Still w w.drew:=⟨rfl,rfl,rfl,rfl⟩
theorem at_any (k:Nat) (hk:k≤100000) (w:World) :
  Calls Tryz.prog 219 #[.int .i64 (k:Int)] w fun e w'=>e = .returned (.int .i64 ((1+2*k:Nat):Int))∧w'=w:=by
 go_enter Tryz.func219,Tryz.ntmps219
 go_wp2
 go_ret
 exact ⟨by first | rfl | (congr 2; omega) | (simp; done),rfl⟩
structure Pg (w:World) (g:Nat) (P:List UInt8):Prop where
 has:Has w g 0 (full P)
 free:Free w g 0 123
 le:P.length≤123
theorem Pg.start {w:World} {g:Nat} (R:Row w g (List.replicate 123 0)):Pg w g []:=⟨by simpa [full] using R.has,R.free 0 123,by simp⟩
theorem Pg.still {w w':World} {g:Nat} {P:List UInt8} (h:Pg w g P) (S:Still w w'):Pg w' g P:=⟨h.has.still S,fun i hi=>(S.frozen _).trans (h.free i hi),h.le⟩
theorem put_pg {w:World} {g:Nat} {P:List UInt8} (h:Pg w g P) (o s n:Nat) (ho:P.length=o) (h1:1≤s) (h8:s≤8) (hs:o+s≤123) (hn:n<256 ^ s) :
  Calls Tryz.prog 124 #[.slice (some ⟨g,0,none⟩) 123 123,.int .i64 (o:Int),.int .i64 (s:Int),.int .u64 (n:Int)] w fun e w'=>e = .returned (.bool true)∧Pg w' g (P++bytesOf n s)∧(∀B,B≤g→Below B w w'):=by
 subst ho
 have hl:=length_full P h.le
 have hp:=put_yes g 0 123 (full P) P.length s n w (by rw [hl]; decide) h.has (by rw [hl]; exact h.free) h1 h8 (by rw [hl]; exact hs) hn
 rw [hl] at hp
 refine hp.mono fun e w' ⟨he,D⟩=>⟨he,⟨?_,fun i hi=>(D.wrote.frz _).trans (h.free i hi),by rw [List.length_append,length_bytesOf]; exact hs⟩,fun B hB=>D.wrote.below hB⟩
 have:=D.has
 rwa [full_put P _ s (length_bytesOf _ _) hs] at this
set_option maxHeartbeats 1000000 in
theorem encode_no (k:UInt8) (A:Option Addr) (n c:Nat) (l:List UInt16) (w:World) (hn:l.length=n) (hm:n≤maxLen) (hf : ¬Fit k l) :
  Calls Tryz.prog 201 #[.int .u8 (k.toNat:Int),.slice A n c] w fun e w'=>e = .returned (.tuple #[.slice none 0 0,.int .i64 50])∧w=w':=by
 unfold maxLen at hm
 by_cases h4:k=4
 ·subst h4
  have hl:(61:Int)<n:=by
   have : ¬l.length≤61:=fun h=>hf ⟨.inl rfl,h⟩
   omega
  clear hf
  go_enter Tryz.func201,Tryz.ntmps201
  go_wp2_with fail
  go_ret2
  exact ⟨rfl,rfl⟩
 ·by_cases h5:k=5
  ·subst h5
   have hl:(61:Int)<n:=by
    have : ¬l.length≤61:=fun h=>hf ⟨.inr rfl,h⟩
    omega
   clear hf h4
   go_enter Tryz.func201,Tryz.ntmps201
   go_wp2_with fail
   go_ret2
   exact ⟨rfl,rfl⟩
  ·have e4:(((k.toNat:Nat):Int) != 4)=true:=by rw [bne_iff_ne]; intro e; exact h4 (UInt8.toNat_inj.1 (by show k.toNat=4; omega))
   have e5:(((k.toNat:Nat):Int) != 5)=true:=by rw [bne_iff_ne]; intro e; exact h5 (UInt8.toNat_inj.1 (by show k.toNat=5; omega))
   clear hf h4 h5
   go_enter Tryz.func201,Tryz.ntmps201
   go_wp2_with fail
   go_ret2
   exact ⟨rfl,rfl⟩
theorem fit_kind {k:UInt8} {l:List UInt16} (h:Fit k l):((((k.toNat:Nat):Int) != 4)=false∨((((k.toNat:Nat):Int) != 4)=true∧(((k.toNat:Nat):Int) != 5)=false)):=by
 rcases h.1 with rfl | rfl
 ·exact .inl rfl
 ·exact .inr ⟨rfl,rfl⟩
set_option maxHeartbeats 1000000 in
theorem encode_yes (k:UInt8) {w:World} {A:Option Addr} {n c:Nat} {l:List UInt16} (h:Wd w A n c l) (hf:Fit k l) :
  Calls Tryz.prog 201 #[.int .u8 (k.toNat:Int),.slice A n c] w (SealPost w k (idxBody l)):=by
 have HD:=hid h
 have HL:=hid h.el
 have hn:n≤61:=by have:=hf.2; rw [h.el] at this; exact this
 have hnn : ¬((61:Int)<(n:Int)):=by omega
 have HF:=hid hf
 have hmk:(Instr.makeSlice 45 (.int .i64 123) (.int .i64 123)).run Tryz.prog w = .ok (.slice (some ⟨w.heap.size,0,none⟩) 123 123) (w.alloc (.cells (vals (List.replicate 123 0)).toArray 5)):=run_make_bytes w 123 (by omega)
 have R1:=alloc_row w (List.replicate 123 0)
 have b1:=(Below.refl w.heap.size w).alloc (Nat.le_refl _) (.cells (vals (List.replicate 123 0)).toArray 5)
 generalize w.alloc (.cells (vals (List.replicate 123 0)).toArray 5)=w1 at *
 obtain ⟨g,hg⟩ : ∃g,g=w.heap.size:=⟨_,rfl⟩
 rw [← hg] at hmk R1
 have P1:=hid (Pg.start R1)
 have HB:=hid b1
 have HG:=hid hg
 clear h R1 b1 hg
 rcases fit_kind hf with e4 | ⟨e4,e5⟩
 all_goals
  clear hf
  go_enter Tryz.func201,Tryz.ntmps201
  go_wp2_with fail
  refine (put_pg P1.out 0 1 n rfl (by decide) (by decide) (by decide) (by omega)).mono ?_
  rintro e w2 ⟨rfl,P2,K2⟩
  have HP2:=hid P2
  have HB2:=hid (HB.out.trans (K2 _ (by rw [HG.out]; exact Nat.le_refl _)))
  clear P2 K2
  go_wp2_with fail
  go_loopw [27] (fun i wr => ∃j:Nat,j≤n∧i = .int .i64 (j:Int)∧Hid (Pg wr g (bytesOf n 1++nbytes (l.take j)))∧Hid (Below w.heap.size w wr)) (fun i _=>n-(intOf i).toNat)
  case atStart=>exact ⟨0,Nat.zero_le _,rfl,hid (by simpa [nbytes] using HP2.out),HB2⟩
  case round =>
   obtain ⟨j,hj,rfl,HP,HBW⟩:=hrel
   clear HP2 HB2
   by_cases hlt:j<n
   ·obtain ⟨b,o,hA,hb,c1⟩:=(HD.out.below HBW.out).at hlt
    have HS:=hid (show bytesOf n 1++nbytes (l.take (j+1))=bytesOf n 1++nbytes (l.take j)++bytesOf (l[j]'(by rw [HL.out]; exact hlt)).toNat 2 by
     rw [List.take_succ_eq_append_getElem (by rw [HL.out]; exact hlt),nbytes_snoc]; simp [List.append_assoc])
    have HPL:=hid (show (bytesOf n 1++nbytes (l.take j)).length=1+2*j by
     rw [List.length_append,length_bytesOf,length_nbytes,List.length_take,HL.out,Nat.min_eq_left (by omega)])
    generalize l[j]'(by rw [HL.out]; exact hlt)=x at c1 HS
    have hx:=u16_lt x
    have hj0:(0:Int)≤(j:Int):=by omega
    have hjn:(j:Int)<(n:Int):=by omega
    subst hA
    go_wp2_with fail
    go_still_tail 8,(by kernel_rfl)
    still_call (at_any j (by omega) _)
    repeat still_step
    refine wpStill_nil ?_
    change wpList _ _ _ _ _ wr.drew
    have HP3:=hid (HP.out.still (sdrew wr))
    have HB3:=hid (show Below w.heap.size w wr.drew from HBW.out.trans ((sdrew wr).below _))
    clear HP HBW c1
    generalize wr.drew=wq at *
    go_wp2_with fail
    refine (put_pg HP3.out (1+2*j) 2 x.toNat HPL.out (by decide) (by decide) (by omega) (by omega)).mono ?_
    rintro e w5 ⟨rfl,P5,K5⟩
    have HP5:=hid P5
    have HB5:=hid (HB3.out.trans (K5 _ (by rw [HG.out]; exact Nat.le_refl _)))
    clear P5 K5 HP3 HB3
    go_wp2_with fail
    go_roundw
    case rel=>exact ⟨j+1,by omega,by go_num,hid (by rw [HS.out]; exact HP5.out),HB5⟩
    case measure=>simp [intOf]; omega
   ·obtain rfl:j=n:=by omega
    have HT:=hid (show Has wr g 0 (full (idxBody l)) by
     have:=HP.out.has
     rw [List.take_of_length_le (by rw [HL.out]; exact Nat.le_refl _)] at this
     unfold idxBody
     rw [HL.out]
     exact this)
    have HLB:=hid (show (idxBody l).length≤123 by rw [length_body,HL.out]; omega)
    have HLF:=hid (length_full (idxBody l) HLB.out)
    go_wp2_with fail
    refine (seal_any k _ 123 123 (full (idxBody l)) HLF.out _ (by decide) HT.out.told).mono ?_
    rintro e w20 ⟨g2,rfl,F⟩
    rw [page_full k _ HLB.out] at F
    have HFR:=hid F
    clear F
    go_wp2_with fail
    go_ret2
    exact ⟨g2,rfl,HBW.out.trans (HFR.out.below.mono HBW.out.size),Nat.le_trans HBW.out.size HFR.out.lo,HFR.out.hi,HFR.out.has,HFR.out.free,HFR.out.len,HFR.out.cap,HFR.out.typ⟩
end Go.Proofs.YtogchamogbendaaGreat.Ix
namespace Go.Proofs.YtogchamogbendaaGreat.Ix
open Lib (hid)
open Go.RowKit Go.Shelf Oct Sf
attribute [local go_sem] Oper.semAt_some
def upto (bs:List UInt8) (k:Nat):List UInt16:=(List.range k).map (wAt bs)
theorem upto_succ (bs:List UInt8) (k:Nat):upto bs (k+1)=upto bs k ++ [wAt bs k]:=by simp [upto,List.range_succ]
theorem upto_length (bs:List UInt8) (k:Nat):(upto bs k).length=k:=by simp [upto]
theorem upto_prefix (bs:List UInt8) {j k:Nat} (h:j≤k):upto bs j <+: upto bs k:=by
 refine ⟨(upto bs k).drop j,?_⟩
 have:upto bs j=(upto bs k).take j:=by
  apply List.ext_getElem
  ·simp [upto]; omega
  ·intro i h1 h2; simp [upto]
 rw [this,List.take_append_drop]
def Keep (n₀ c:Nat) (A B:World):Prop:=Below n₀ A B∧B.heap[c]?=A.heap[c]?
theorem Keep.refl (n₀ c:Nat) (A:World):Keep n₀ c A A:=⟨Below.refl _ _,rfl⟩
theorem keep_t {n₀ c:Nat} {A B C:World} (h:Keep n₀ c A B) (k:Keep n₀ c B C):Keep n₀ c A C:=⟨h.1.trans k.1,k.2.trans h.2⟩
theorem keep_b {n₀ c:Nat} {w:World} (hn:n₀≤w.heap.size) (hc:c<w.heap.size) (W:World) (l:Nat) (o o':Obj) (hl:w.heap.size≤l) (h:W.heap[l]?=some o) (h1:o.isCells=false) (h2:o.isWalk=false):Keep n₀ c W (W.putObj l o') :=
 ⟨belowK_b hn W l o o' hl h h1 h2,World.putObj_heap_other (by omega)⟩
theorem Keep.drew (n₀ c:Nat) (A:World):Keep n₀ c A A.drew:=⟨(sdrew A).below _,rfl⟩
theorem at_same (k:Nat) (hk:k≤100000) (w:World) :
  Calls Tryz.prog 219 #[.int .i64 (k:Int)] w fun e w'=>e = .returned (.int .i64 (1+2*(k:Int)))∧w=w':=(at_any k hk w).mono fun e w' ⟨he,hw⟩=>⟨by rw [he]; simp,hw.symm⟩
theorem get_count {w:World} {g:Nat} {bs:List UInt8} (hlen:bs.length=123) (hb:Has w g 0 bs) :
  Calls Tryz.prog 176 #[.slice (some ⟨g,0,none⟩) 123 123,.int .i64 0,.int .i64 1] w fun e w'=>e = .returned (.tuple #[.int .u64 (cAt bs:Int),.bool true])∧w=w':=by
 have h:=get_yes g 0 123 bs 0 1 w (by rw [hlen]; decide) hb (by decide) (by decide) (by omega)
 rw [hlen,List.drop_zero] at h
 exact h.mono fun e w' ⟨he,hw⟩=>⟨he,hw⟩
theorem get_number {w:World} {g:Nat} {bs:List UInt8} (hlen:bs.length=123) (hb:Has w g 0 bs) (k:Nat) (hk:k<61) :
  Calls Tryz.prog 176 #[.slice (some ⟨g,0,none⟩) 123 123,.int .i64 (1+2*(k:Int)),.int .i64 2] w fun e w'=>e = .returned (.tuple #[.int .u64 ((wAt bs k).toNat:Int),.bool true])∧w=w':=by
 have h:=get_yes g 0 123 bs (1+2*k) 2 w (by rw [hlen]; decide) hb (by decide) (by decide) (by omega)
 rw [hlen] at h
 rw [show ((1+2*k:Nat):Int)=1+2*(k:Int) by omega] at h
 refine h.mono fun e w' ⟨he,hw⟩=>⟨?_,hw⟩
 rw [he]
 have:=num_u16 ((bs.drop (1+2*k)).take 2) (by simp; omega)
 unfold wAt
 rw [this]
theorem get_beyond {w:World} {g:Nat} (k:Nat) (hk : ¬k<61) :
  Calls Tryz.prog 176 #[.slice (some ⟨g,0,none⟩) 123 123,.int .i64 (1+2*(k:Int)),.int .i64 2] w fun e w'=>e = .returned (.tuple #[.int .u64 0,.bool false])∧w=w' :=
 (get_no (some ⟨g,0,none⟩) 123 123 (1+2*(k:Int)) 2 w (by decide) (by omega)).mono fun e w' ⟨he,hw⟩=>⟨he,hw⟩
set_option maxHeartbeats 2000000 in
theorem numbers1 (n:Nat) (hn:1≤n) (l Bn n₀ g:Nat) (bs:List UInt8) (hlen:bs.length=123) (hg:g<n₀) (hcl:cAt bs<256) (J Jx:List UInt16→World→Prop)
  (hY : ∀pre x W,J pre W→pre.length<min (cAt bs) 61→YieldAt Fence.wide (n-1) Tryz.prog l #[.int .u16 (x.toNat:Int)] W fun e W' =>
   (e = .returned (.bool true)∧J (pre ++ [x]) W'∧Keep n₀ Bn W W')∨(e = .returned (.bool false)∧Jx (pre ++ [x]) W'))
  (W:World) (hBn:W.cell? ⟨Bn,0,none⟩=some (.slice (some ⟨g,0,none⟩) 123 123)) (hh:Has W g 0 bs) (h0:J [] W) (hdr : ∀pre w,J pre w→J pre w.drew) (hdx : ∀pre w,Jx pre w→Jx pre w.drew) :
  CallsIn Fence.wide n Tryz.prog 224 #[.func (.yield l) #[] #[],.pointer (some ⟨Bn,0,none⟩)] W fun e W'=>(∃v,e = .returned v) ∧
   ((∃ys,ys=upto bs (min (cAt bs) 61)∧J ys W')∨(∃pre,pre <+: upto bs (min (cAt bs) 61)∧Jx pre W')):=by
 refine callsIn_of_wp Tryz.func224 rfl trivial ?_ rfl
 simp only [Tryz.ntmps224,List.size_toArray,List.length_cons,List.length_nil,Nat.reduceAdd,Nat.reduceSub,Array.replicate_succ,Array.replicate_zero,List.push_toArray,List.append_toArray,List.nil_append,List.cons_append]
 gi_wp2_with (refine ⟨trivial,?_⟩; gi_at_call 176; refine (callsIn_wide.2 (get_count hlen hh)).mono ?_; rintro e w' ⟨rfl,rfl⟩)
 gi_loopw [15] (fun i wr => ∃k:Nat,k≤min (cAt bs) 61∧i = .int .i64 (k:Int)∧J (upto bs k) wr∧Keep n₀ Bn W wr) (fun i _=>cAt bs-(intOf i).toNat)
 case atStart=>exact ⟨0,Nat.zero_le _,rfl,h0,Keep.refl _ _ _⟩
 case round =>
  obtain ⟨k,hk,rfl,hJs,hnx⟩:=hrel
  have hc:=(World.cell?_of_block (a:=⟨Bn,0,none⟩) hnx.2).trans hBn
  have hH:=hid (hh.below hg hnx.1)
  by_cases hlt:k<cAt bs
  ·by_cases h61:k<61
   ·have HD:=hdr _ _ hJs
    obtain ⟨fn,tmps,assign,body,hy,hR⟩:=hY _ (wAt bs k) wr.drew HD (by rw [upto_length]; omega)
    have hx:=u16_lt (wAt bs k)
    have hus:=hid (upto_succ bs k)
    have hGN:=hid (get_number hlen (hH.out.still (sdrew wr)) k h61)
    generalize wAt bs k=x at hy hR hx hus hGN
    have hmx:Tryz.prog.follows .mixedOrders=true:=by kernel_rfl
    gi_wp2
    gi_region_with_o (first | (refine ⟨trivial,?_⟩; gi_at_call 219; refine (callsIn_wide.2 (at_same k (by omega) _)).mono ?_; rintro e w' ⟨rfl,rfl⟩) | (refine ⟨trivial,?_⟩; gi_at_call 176; refine (callsIn_wide.2 hGN.out).mono ?_; rintro e w' ⟨rfl,rfl⟩))
    all_goals
     gi_wp2
     refine hR.mono ?_
     rintro e W3 (⟨rfl,hJ3,hk3⟩ | ⟨rfl,hJx3⟩)
     ·rw [← hus.out] at hJ3
      gi_wp2
      go_roundw
      case rel=>exact ⟨k+1,by omega,by go_num,hJ3,keep_t hnx (keep_t (Keep.drew _ _ wr) hk3)⟩
      case measure=>simp [intOf]; omega
     ·rw [← hus.out] at hJx3
      gi_wp2
      refine bodyPost_ret (results_none rfl _ _ _) rfl ?_
      exact ⟨⟨_,rfl⟩,.inr ⟨_,upto_prefix bs (by omega),hJx3⟩⟩
   ·have hk61:=hid (show k=min (cAt bs) 61 by omega)
    have hmx:Tryz.prog.follows .mixedOrders=true:=by kernel_rfl
    have HD:=hdr _ _ hJs
    have hGN:=hid (get_beyond (w:=wr.drew) (g:=g) k h61)
    gi_wp2
    gi_region_with_o (first | (refine ⟨trivial,?_⟩; gi_at_call 219; refine (callsIn_wide.2 (at_same k (by omega) _)).mono ?_; rintro e w' ⟨rfl,rfl⟩) | (refine ⟨trivial,?_⟩; gi_at_call 176; refine (callsIn_wide.2 hGN.out).mono ?_; rintro e w' ⟨rfl,rfl⟩))
    all_goals
     gi_wp2
     refine ⟨fun _ h=>(by cases h),?_⟩
     gi_wp2
     refine bodyPost_ret (results_none rfl _ _ _) rfl ?_
     exact ⟨⟨_,rfl⟩,.inl ⟨_,rfl,by rw [← hk61.out]; exact HD⟩⟩
  ·have hk61:=hid (show k=min (cAt bs) 61 by omega)
   gi_wp2
   go_end0
   exact ⟨⟨_,rfl⟩,.inl ⟨_,rfl,by rw [← hk61.out]; exact hJs⟩⟩
theorem numbers_any (n:Nat) (g:Nat) (w:World) :
  CallsIn Fence.wide n Tryz.prog 211 #[.slice (some ⟨g,0,none⟩) 123 123] w fun e w'=>e = .returned (.func (.func 224) #[] #[.pointer (some ⟨w.heap.size,0,none⟩)])∧w'=w.alloc (.cells #[.slice (some ⟨g,0,none⟩) 123 123] 45):=by
 refine callsIn_of_wp Tryz.func211 rfl trivial ?_ rfl
 simp only [Tryz.ntmps211,List.size_toArray,List.length_cons,List.length_nil,Nat.reduceAdd,Nat.reduceSub,Array.replicate_succ,Array.replicate_zero,List.push_toArray,List.append_toArray,List.nil_append,List.cons_append]
 gi_wp2
 go_ret
 exact ⟨rfl,rfl⟩
theorem drew_grown (w:World):w.grownBy w.drew none:=⟨rfl,rfl,rfl,Nat.le_refl _,fun _ _ _=>rfl⟩
theorem abides_drew {β:Type} {B:Nat} {J:β→World→Prop} (h:AbidesFrom B J) (s:β) (w:World) (hs:J s w):J s w.drew:=h s w _ none hs (drew_grown w) (fun r e=>by cases e)
theorem numbers_stops (n:Nat) (hn:1≤n) (Bn n₀ g:Nat) (bs:List UInt8) (hlen:bs.length=123) (hcl:cAt bs<256) (w:World) (hg:g<n₀) (hB:Bn<w.heap.size) (hn₀:n₀≤w.heap.size)
  (hBn:w.cell? ⟨Bn,0,none⟩=some (.slice (some ⟨g,0,none⟩) 123 123)) (hh:Has w g 0 bs) :
  SeqStopsK Fence.wide n Tryz.prog 224 #[.pointer (some ⟨Bn,0,none⟩)] (fun x:UInt16 => #[Value.int .u16 (x.toNat:Int)]) (Keep n₀ Bn) (fun ys=>ys=upto bs (min (cAt bs) 61)) (fun pre=>pre <+: upto bs (min (cAt bs) 61)) (min (cAt bs) 61) w:=fun l J Jx W hW hJ hJx hY h0 =>
 numbers1 n hn l Bn n₀ g bs hlen hg hcl J Jx hY W ((hW.cell (p:=⟨Bn,0,none⟩) hB).trans hBn) (hh.below (by omega) hW) h0 (fun s w' hs=>abides_drew hJ s w' hs) (fun s w' hs=>abides_drew hJx s w' hs)
end Go.Proofs.YtogchamogbendaaGreat.Ix
namespace Go.Proofs.YtogchamogbendaaGreat.Ix
open Lib (hid)
open Go.RowKit Go.Shelf Oct Sf
attribute [local go_sem] Oper.semAt_some
def DecNo (w:World) (e:Ending) (w':World):Prop:=e = .returned (.tuple #[.slice none 0 0,.int .i64 50])∧Below w.heap.size w w'
theorem bytes_equal (a c:Option Addr) (len len' cap cap':Nat) (xs ys:List UInt8) (hx':xs.length=len) (hy':ys.length=len') (w:World) (hx:Oct.Told w a xs) (hy:Oct.Told w c ys) :
  Calls Tryz.prog 178 #[.slice a len cap,.slice c len' cap'] w fun e w'=>e = .returned (.bool (xs==ys))∧w=w':=by
 subst hx' hy'
 have k1:=conv_told (P:=Tryz.prog) hx cap 45 9 5 Tryz.underlying45 Tryz.underlying5 Tryz.underlying9
 have k2:=conv_told (P:=Tryz.prog) hy cap' 45 9 5 Tryz.underlying45 Tryz.underlying5 Tryz.underlying9
 clear hx hy
 go_enter Tryz.func178,Tryz.ntmps178
 go_wp2
 go_ret
 exact ⟨rfl,rfl⟩
theorem has_lt {w:World} {b o:Nat} {bs:List UInt8} (h:Has w b o bs) (h0:0<bs.length):b<w.heap.size:=World.block_lt_of_cell? w _ (h 0 h0)
set_option maxHeartbeats 1000000 in
theorem decode_len (k:UInt8) (a:Option Addr) (len cap:Nat) (w:World) (h:len≠128) (hm:len≤maxLen) :
  Calls Tryz.prog 189 #[.int .u8 (k.toNat:Int),.slice a len cap] w (DecNo w):=by
 refine (callsIn_wide (n:=5)).1 ?_
 refine callsIn_of_wp_marks Tryz.func189 rfl trivial ?_ rfl
 simp only [Tryz.ntmps189,List.size_toArray,List.length_cons,List.length_nil,Nat.reduceAdd,Nat.reduceSub,Array.replicate_succ,Array.replicate_zero,List.push_toArray,List.append_toArray,List.nil_append,List.cons_append]
 gi_wp2_with (refine ⟨trivial,?_⟩; gi_at_call 174; refine (callsIn_wide.2 (open_len a len cap _ h hm)).mono ?_; rintro e w' ⟨rfl,rfl⟩)
 exact ⟨_,results_tmp2 rfl _ _ _,rfl,Below.refl _ _⟩
set_option maxHeartbeats 1000000 in
theorem decode_sum (k:UInt8) (b o cap:Nat) (ps:List UInt8) (w:World) (hb:Has w b o ps) (hlen:ps.length=128) (hc:128≤cap) (hm:cap≤maxLen) (hs : ¬Oct.Good ps) :
  Calls Tryz.prog 189 #[.int .u8 (k.toNat:Int),.slice (some ⟨b,o,none⟩) 128 cap] w (DecNo w):=by
 refine (callsIn_wide (n:=5)).1 ?_
 refine callsIn_of_wp_marks Tryz.func189 rfl trivial ?_ rfl
 simp only [Tryz.ntmps189,List.size_toArray,List.length_cons,List.length_nil,Nat.reduceAdd,Nat.reduceSub,Array.replicate_succ,Array.replicate_zero,List.push_toArray,List.append_toArray,List.nil_append,List.cons_append]
 gi_wp2_with (refine ⟨trivial,?_⟩; gi_at_call 174; refine (callsIn_wide.2 (open_bad b o cap ps _ hb hlen hc hm (fun e=>hs e))).mono ?_; rintro e w' ⟨rfl,S2⟩)
 exact ⟨_,results_tmp2 rfl _ _ _,rfl,S2.below _⟩
def OwnW (w:World) (base:Nat) (v:Value) (l:List UInt16):Prop:=w.ownsRow base 34 1 v l.length (wvals l)
theorem OwnW.told {w:World} {base:Nat} {v:Value} {l:List UInt16} (h:OwnW w base v l) : ∃a cap,v = .slice a l.length cap∧Wd w a l.length cap l∧(a=none→cap=0):=by
 rcases h.2 with ⟨rfl,h0⟩ | ⟨g,cap,cur,rfl,hb,hg,hn,hm,hs,ht⟩
 ·have:l = []:=List.eq_nil_of_length_eq_zero h0
  subst this
  exact ⟨none,0,rfl,⟨rfl,Nat.le_refl _,Nat.zero_le _,.inl rfl⟩,fun _=>rfl⟩
 ·have hh:HasV w g 0 (wvals l):=fun i hi=>by
   rw [Nat.zero_add]
   rw [length_wvals] at hi
   have:=World.ownsRow.cellAt h i (by omega)
   rw [this]
   simp [wvals,hi]
  exact ⟨_,cap,rfl,⟨rfl,hn,hm,hh.told⟩,fun e=>by cases e⟩
theorem OwnW.base {w:World} {base base':Nat} {v:Value} {l:List UInt16} (h:OwnW w base v l) (hb:base'≤base):OwnW w base' v l:=by
 refine ⟨h.1,?_⟩
 rcases h.2 with h0 | ⟨g,cap,cur,rfl,hb',rest⟩
 ·exact .inl h0
 ·exact .inr ⟨g,cap,cur,rfl,Nat.le_trans hb hb',rest⟩
theorem OwnW.same {w w':World} {base:Nat} {v:Value} {l:List UInt16} (h:OwnW w base v l) (hk : ∀k,v.ownBlock=some k→k<w.heap.size→w'.heap[k]?=w.heap[k]?):OwnW w' base v l:=by
 refine ⟨h.1,?_⟩
 rcases h.2 with hn | ⟨g,cap,cur,rfl,hb,hgg,rest⟩
 ·exact .inl hn
 ·refine .inr ⟨g,cap,cur,rfl,hb,?_,rest⟩
  rw [hk g rfl (Array.getElem?_eq_some_iff.1 hgg).1]
  exact hgg
theorem OwnW.below {w w':World} {base B:Nat} {v:Value} {l:List UInt16} (h:OwnW w base v l) (k:Below B w w') (hB:w.heap.size≤B):OwnW w' base v l:=h.same fun i _ hi=>k.block i (by omega)
theorem wIn_upto (ps:List UInt8):upto (bodyIn ps) (min (cAt (bodyIn ps)) 61)=wIn ps:=rfl
theorem boxed_below {w w':World} {B C:Nat} {t:TypeId} {v:Value} (h:Boxed w B t v) (k:Below C w w') (hC:B<C):Boxed w' B t v:=(k.block B hC).trans h
def DecYes (w:World) (l:List UInt16) (e:Ending) (w':World):Prop := ∃v,e = .returned (.tuple #[v,.int .i64 0])∧OwnW w' w.heap.size v l∧Below w.heap.size w w'
theorem word_info:(Tryz.prog.info? 34).map (fun i=>(i.zero,i.size,i.bytes))=some (some (.int .u16 0),1,2):=by kernel_rfl
set_option maxHeartbeats 2000000 in
theorem decode_good (k:UInt8) (b o cap:Nat) (ps:List UInt8) (w:World) (hb:Has w b o ps) (hlen:ps.length=128) (hc:128≤cap) (hm:cap≤maxLen) (hs:Oct.Good ps) :
  Calls Tryz.prog 189 #[.int .u8 (k.toNat:Int),.slice (some ⟨b,o,none⟩) 128 cap] w (fun e w'=>(Holds k ps∧DecYes w (wIn ps) e w')∨(¬Holds k ps∧DecNo w e w')):=by
 obtain ⟨i0,hi,hz0,hz1,hz2⟩:=info_parts word_info
 have HB:=hid hb
 have HL:=hid hlen
 have HS:=hid hs
 have HO:=hid (open_good b o cap ps w hb hlen hc hm hs)
 have hbl:(bodyIn ps).length=123:=by simp [bodyIn,hlen]
 have hcl:cAt (bodyIn ps)<256:=by
  have:=num_lt ((bodyIn ps).take 1)
  rw [show ((bodyIn ps).take 1).length=1 by simp [hbl]] at this
  exact this
 have HBL:=hid hbl
 generalize (ps[0]'(by omega))=kd at HO
 clear hb hlen hs hbl
 refine (callsIn_wide (n:=5)).1 ?_
 refine callsIn_of_wp_marks Tryz.func189 rfl trivial ?_ rfl
 simp only [Tryz.ntmps189,List.size_toArray,List.length_cons,List.length_nil,Nat.reduceAdd,Nat.reduceSub,Array.replicate_succ,Array.replicate_zero,List.push_toArray,List.append_toArray,List.nil_append,List.cons_append]
 gi_wp2_with (first | (refine ⟨trivial,?_⟩; gi_at_call 174; refine (callsIn_wide.2 HO.out).mono ?_; rintro e w2 ⟨g,rfl,F⟩; have HF:=hid F; clear F) | (refine ⟨trivial,?_⟩; gi_at_call 211; refine (numbers_any _ g _).mono ?_; rintro e w' ⟨rfl,rfl⟩))
 obtain ⟨g1,g2,g3,g4,g5,g6⟩:=HF.out
 have bO:=Boxed.new w2 134 (.slice none 0 0)
 have bN:=Boxed.new (w2.alloc (.cells #[.slice none 0 0] 134)) 45 (.slice (some ⟨g,0,none⟩) 123 123)
 rw [World.size_alloc] at bN
 have hB0:Below w2.heap.size w2 ((w2.alloc (.cells #[.slice none 0 0] 134)).alloc (.cells #[.slice (some ⟨g,0,none⟩) 123 123] 45)):=((Below.refl _ w2).alloc (Nat.le_refl _) _).alloc (by simp) _
 have hHs:=g4.below (B:=w2.heap.size) g3 hB0
 have hBB:=hid HB
 refine wpIn_rangeFunc_ownG rfl (by decide) (gf := 224) (lb := #[.pointer (some ⟨w2.heap.size+1,0,none⟩)]) rfl trivial (enters_of Tryz.func224 (by kernel_rfl) rfl)
  (numbers_stops (5-1) (by decide) (w2.heap.size+1) w2.heap.size g (bodyIn ps) HBL.out hcl _ (by omega) (by simp) (by simp; omega) bN.cell hHs) keep_t (keep_b (by simp; omega) (by simp)) (Below.refl _ _) (fun _=>rfl)
  (fun pre W=>((∃v,Boxed W w2.heap.size 134 v∧W.ownsRow w2.heap.size 34 1 v pre.length (wvals pre)∧True)∧Boxed W (w2.heap.size+1) 45 (.slice (some ⟨g,0,none⟩) 123 123))∧Below w2.heap.size w2 W)
  (fun _ _ _=>False)
  (OwnFrom.and (OwnFrom.and (Own.from (holdsRow_own w2.heap.size w2.heap.size 134 34 1 (fun pre=>pre.length) (fun pre=>wvals pre) (fun pre v=>True)) _) (Own.from (boxed_own _ _ _) _)) (ownFrom_below (Nat.le_refl _) (by simp; omega)))
  (fun _ _ _ _ _ hs _ _=>hs)
  ⟨⟨⟨_,bO.alloc _,World.ownsRow_nil _ _ _ _,trivial⟩,bN⟩,hB0⟩
  (fun x => { tmps := #[.int .u8 (k.toNat:Int),.slice (some ⟨b,o,none⟩) 128 cap,undef,undef,.slice none 0 0,.int .i64 0,.int .u8 (kd.toNat:Int),.slice (some ⟨g,0,none⟩) 123 123,.int .i64 0,.pointer (some ⟨w2.heap.size,0,none⟩),.int .u16 (x.toNat:Int),undef,undef,
   .tuple #[.int .u8 (kd.toNat:Int),.slice (some ⟨g,0,none⟩) 123 123,.int .i64 0],.slice (some ⟨b,o,none⟩) 128 cap,.tuple #[.int .u8 (kd.toNat:Int),.slice (some ⟨g,0,none⟩) 123 123,.int .i64 0],.int .u8 (kd.toNat:Int),.slice (some ⟨g,0,none⟩) 123 123,.int .i64 0,.int .i64 0,.bool false,.slice (some ⟨g,0,none⟩) 123 123,
   .func (.func 224) #[] #[.pointer (some ⟨w2.heap.size+1,0,none⟩)],.int .u16 (x.toNat:Int),undef,undef,undef,undef,undef,undef,undef,undef,undef,undef,undef,undef,undef,undef,undef,undef,undef,undef,undef],defers := [] }) ?assign ?body ?done ?stop
 case assign =>
  intro l x W K hK
  gi_wp2
  exact hK
 case body =>
  rintro l pre x W ⟨⟨⟨v,hv,hrow,_⟩,hbx⟩,hB⟩ hlt
  have hc:=hv.cell
  have hm1:pre.length+1≤maxLen:=by unfold maxLen; omega
  have hm2:(pre.length+1)*2≤140737488355328:=by omega
  gi_wp2_with (gi_at_builtin; refine wpListIn_append_own _ rfl _ _ 134 rfl w2.heap.size 34 i0 (.int .u16 0) 1 2 Tryz.underlying134 hi hz0 hz1 hz2 rfl (by decide) _ _ _ rfl (hrow.alloc _) ⟨W.heap.size,0,none⟩ 1 1 [.int .u16 (x.toNat:Int)] rfl rfl (cell_one_new _ _ _) (by simp [Value.oneCell']) hm1 hm2 (by have:=hB.size; simp; omega) ?_; intro v' w1 hown' hgrow _; obtain ⟨g',cap',rfl⟩:=ownsRow_succ hown'; obtain ⟨hv1,hv2,hr2,hk2,hb2⟩:=hv.appended (by decide) hrow hB.size (Nat.le_refl _) hown' hgrow; have hbx1:=(hbx.alloc _).kept hgrow (hbx.not_row (by decide) hrow); have hc1:=hv1.cell; have hf1:=hv1.frozen)
  have hbx2:=Boxed.other (B':=w2.heap.size) hbx1 (by omega) (.slice (some ⟨g',0,none⟩) (pre.length+1) cap')
  refine ⟨hk2.from _,⟨hb2,hbx2.trans hbx.symm⟩,⟨⟨_,hv2,?_,trivial⟩,hbx2⟩,hB.trans hb2⟩
  ·rw [wvals_append,List.length_append]; simpa [wvals] using hr2
 case done =>
  rintro D ys W hD rfl ⟨⟨⟨v,hv,hrow,_⟩,hbx⟩,hBW⟩ hK
  rw [wIn_upto] at hrow
  obtain ⟨A,cp,rfl,hWd,_⟩:=OwnW.told hrow
  have hc:=hv.cell
  have hDw:=hid (show w.heap.size≤D by have:=g1.size; simp at hD; omega)
  have hDl:D<W.heap.size:=(Array.getElem?_eq_some_iff.1 hK).1
  have hle:=wIn_le ps
  have hown:OwnW W w2.heap.size (.slice A (wIn ps).length cp) (wIn ps):=hrow
  have Hhw:=hid (And.intro hown (And.intro hWd (And.intro hv (And.intro hK hDl))))
  have HBW:=hid (g1.trans (hBW.mono g1.size))
  have HBB:=hid (HB.out.below (has_lt HB.out (by rw [HL.out]; decide)) HBW.out)
  by_cases hkind:k=4∨k=5
  ·have HFT:=hid (show Fit k (wIn ps) from ⟨hkind,hle⟩)
   have HEY:=hid (encode_yes k hWd HFT.out)
   have HPL:=hid (length_idxPage k (wIn ps) hle)
   have HHD:=hid hkind
   clear hv hrow hown hWd hbx hK hkind
   by_cases heq:idxPage k (wIn ps)=ps
   ·have HQ:=hid heq
    clear heq
    gi_wp2_with (first | (refine ⟨trivial,?_⟩; gi_at_call 201; refine (callsIn_wide.2 HEY.out).mono ?_; rintro e w6 ⟨g2,rfl,F6⟩; have HF6:=hid F6; clear F6; have hc6:=(boxed_below Hhw.out.2.2.1 HF6.out.below Hhw.out.2.2.1.lt).cell) | (refine ⟨trivial,?_⟩; gi_at_call 178; refine (callsIn_wide.2 (bytes_equal _ _ 128 128 128 cap (idxPage k (wIn ps)) ps HPL.out HL.out _ HF6.out.has.told (HBB.out.below (has_lt HBB.out (by rw [HL.out]; decide)) HF6.out.below).told)).mono ?_; rintro e w7 ⟨rfl,rfl⟩; rw [show (idxPage k (wIn ps)==ps)=true from by rw [beq_iff_eq]; exact HQ.out]))
    have hK6:=(HF6.out.below.block D Hhw.out.2.2.2.2).trans Hhw.out.2.2.2.1
    refine ⟨by simp,.inl ⟨_,_,rfl,run_takeDeferred hK6,?_⟩⟩
    exact ⟨_,results_tmp2 rfl _ _ _,.inl ⟨⟨HL.out,HS.out,HHD.out,HQ.out⟩,_,rfl,OwnW.base (ownsRow_putObj (OwnW.below Hhw.out.1 HF6.out.below (Nat.le_refl _)) _ hK6 rfl) g1.size,(HBW.out.trans (HF6.out.below.mono HBW.out.size)).trans (belowK_b (w:=w) (Nat.le_refl _) _ D _ _ hDw.out hK6 rfl rfl)⟩⟩
   ·have HQ:=hid heq
    clear heq
    gi_wp2_with (first | (refine ⟨trivial,?_⟩; gi_at_call 201; refine (callsIn_wide.2 HEY.out).mono ?_; rintro e w6 ⟨g2,rfl,F6⟩; have HF6:=hid F6; clear F6; have hc6:=(boxed_below Hhw.out.2.2.1 HF6.out.below Hhw.out.2.2.1.lt).cell) | (refine ⟨trivial,?_⟩; gi_at_call 178; refine (callsIn_wide.2 (bytes_equal _ _ 128 128 128 cap (idxPage k (wIn ps)) ps HPL.out HL.out _ HF6.out.has.told (HBB.out.below (has_lt HBB.out (by rw [HL.out]; decide)) HF6.out.below).told)).mono ?_; rintro e w7 ⟨rfl,rfl⟩; rw [show (idxPage k (wIn ps)==ps)=false from by rw [beq_eq_false_iff_ne]; exact HQ.out]))
    have hK6:=(HF6.out.below.block D Hhw.out.2.2.2.2).trans Hhw.out.2.2.2.1
    refine ⟨by simp,.inl ⟨_,_,rfl,run_takeDeferred hK6,?_⟩⟩
    exact ⟨_,results_tmp2 rfl _ _ _,.inr ⟨fun h=>HQ.out h.2.2.2,rfl,(HBW.out.trans (HF6.out.below.mono HBW.out.size)).trans (belowK_b (w:=w) (Nat.le_refl _) _ D _ _ hDw.out hK6 rfl rfl)⟩⟩
  ·have HEN:=hid (encode_no k A (wIn ps).length cp (wIn ps) W rfl (by unfold maxLen; omega) (fun h=>hkind h.1))
   have HHD:=hid hkind
   clear hv hrow hown hWd hbx hK hkind
   gi_wp2_with (refine ⟨trivial,?_⟩; gi_at_call 201; refine (callsIn_wide.2 HEN.out).mono ?_; rintro e w6 ⟨rfl,rfl⟩)
   refine ⟨trivial,?_⟩
   gi_wp2
   refine ⟨by simp,.inl ⟨_,_,rfl,run_takeDeferred Hhw.out.2.2.2.1,?_⟩⟩
   exact ⟨_,results_tmp2 rfl _ _ _,.inr ⟨fun h=>HHD.out h.2.2.1,rfl,HBW.out.trans (belowK_b (w:=w) (Nat.le_refl _) _ D _ _ hDw.out Hhw.out.2.2.2.1 rfl rfl)⟩⟩
 case stop =>
  rintro D c pre W _ _ h _
  exact h.elim
theorem decode_any (k:UInt8) (a:Option Addr) (len cap:Nat) (ps:List UInt8) (hlen:ps.length=len) (w:World) (hb:Oct.Told w a ps) (hc:len≤cap) (hm:cap≤maxLen) :
  Calls Tryz.prog 189 #[.int .u8 (k.toNat:Int),.slice a len cap] w (fun e w'=>(Holds k ps∧DecYes w (wIn ps) e w')∨(¬Holds k ps∧DecNo w e w')):=by
 by_cases h:len=128
 ·subst h
  rcases hb with rfl | ⟨b,o,rfl,hb⟩
  ·simp at hlen
  ·by_cases hs:Oct.Good ps
   ·exact decode_good k b o cap ps w hb hlen hc hm hs
   ·exact (decode_sum k b o cap ps w hb hlen hc hm hs).mono fun e w' h => .inr ⟨fun H=>hs H.2.1,h⟩
 ·exact (decode_len k a len cap w h (Nat.le_trans hc hm)).mono fun e w' h' => .inr ⟨fun H=>h (hlen▸H.1),h'⟩
theorem decode_page (k:UInt8) (b o cap:Nat) (l:List UInt16) (w:World) (hf:Fit k l) (hb:Has w b o (idxPage k l)) (hc:128≤cap) (hm:cap≤maxLen) :
  Calls Tryz.prog 189 #[.int .u8 (k.toNat:Int),.slice (some ⟨b,o,none⟩) 128 cap] w (DecYes w l):=by
 refine (decode_any k _ 128 cap (idxPage k l) (length_idxPage k l hf.2) w hb.told hc hm).mono ?_
 rintro e w' (⟨_,h⟩ | ⟨h,_⟩)
 ·rwa [wIn_page k l hf.2] at h
 ·exact absurd (holds_page k l hf.2 hf.1) h
end Go.Proofs.YtogchamogbendaaGreat.Ix
