import Derived.Test.YtogchamogbendaaGreatQth
set_option maxRecDepth 100000
set_option linter.unusedVariables false
set_option linter.unusedSimpArgs false
namespace Go.Proofs.YtogchamogbendaaGreat.Pl
open Go.RowKit Oct Mv Tl Pk Go.Maps
def pagesOf (n:Int):Int:=if n<1 then 0 else (n-1)/61+1
theorem pages_any (n:Int) (h1 : -9223372036854775808≤n) (h2:n≤9223372036854775807) (w:World) :
  Calls Tryz.prog 98 #[.int .i64 n] w fun e w'=>e = .returned (.int .i64 (pagesOf n))∧w=w':=by
 unfold pagesOf
 by_cases h:n<1
 ·rw [if_pos h]
  go_enter Tryz.func98,Tryz.ntmps98
  go_wp2
  go_ret
  exact ⟨rfl,rfl⟩
 ·rw [if_neg h]
  have ht:(n-1).tdiv 61=(n-1)/61:=Int.tdiv_eq_ediv_of_nonneg (by omega)
  go_enter Tryz.func98,Tryz.ntmps98
  go_wp2
  go_ret
  exact ⟨by first | rfl | (congr 1; congr 1; omega),rfl⟩
theorem place_pos (n:Nat) (h2:n≤9223372036854775807) (w:World) :
  Calls Tryz.prog 236 #[.int .i64 (n:Int)] w fun e w'=>e = .returned (.tuple #[.int .i64 ((n/61:Nat):Int),.int .i64 ((n % 61:Nat):Int)])∧w=w':=by
 have h0 : ¬((n:Int)<0):=by omega
 have ht:(n:Int).tdiv 61=((n/61:Nat):Int):=by rw [Int.tdiv_eq_ediv_of_nonneg (by omega)]; rfl
 have hm:(n:Int).tmod 61=((n % 61:Nat):Int):=by rw [Int.tmod_eq_emod_of_nonneg (by omega)]; rfl
 go_enter Tryz.func236,Tryz.ntmps236
 go_wp2
 go_ret2
 refine ⟨?_,rfl⟩
 congr 3
def pg (n:Nat):Nat:=(n+60)/61
theorem pages_pg (n:Nat):pagesOf (n:Int)=(pg n:Int):=by
 unfold pagesOf pg
 split <;> omega
theorem pages_eq (n:Nat) (h:n≤9223372036854775807) (w:World) :
  Calls Tryz.prog 98 #[.int .i64 (n:Int)] w fun e w'=>e = .returned (.int .i64 (pg n:Int))∧w=w':=by
 rw [← pages_pg]
 exact pages_any n (by omega) (by omega) w
def need (n:Nat):Nat:=pg n+pg (pg n)
theorem need_eq (n:Nat) (h:n≤4096) (w:World) :
  Calls Tryz.prog 28 #[.int .i64 (n:Int)] w fun e w'=>e = .returned (.int .i64 (need n:Int))∧w=w':=by
 have hp:pg n≤4096:=by unfold pg; omega
 have hpp:pg (pg n)≤4096:=by unfold pg at *; omega
 have e1:(pg n:Int)+(pg (pg n):Int)=(need n:Int):=by unfold need; omega
 go_enter Tryz.func28,Tryz.ntmps28
 go_wp2_with fail
 refine (pages_eq n (by omega) _).mono ?_
 rintro e w' ⟨rfl,rfl⟩
 go_wp2_with fail
 refine (pages_eq n (by omega) _).mono ?_
 rintro e w' ⟨rfl,rfl⟩
 go_wp2_with fail
 refine (pages_eq (pg n) (by omega) _).mono ?_
 rintro e w' ⟨rfl,rfl⟩
 go_wp2_with fail
 go_ret
 exact ⟨by first | rfl | rw [e1],rfl⟩
structure ButL (w w':World) (L:List Nat):Prop where
 os:w'.os=w.os
 tape:w'.tape=w.tape
 output:w'.output=w.output
 size:w.heap.size≤w'.heap.size
 block : ∀k,k<w.heap.size→k∉L→w'.heap[k]?=w.heap[k]?
theorem ButL.refl (w:World) (L:List Nat):ButL w w L:=⟨rfl,rfl,rfl,Nat.le_refl _,fun _ _ _=>rfl⟩
theorem ButL.join {w w' w'':World} {L M:List Nat} (h:ButL w w' L) (k:ButL w' w'' M) (hM : ∀x∈M,x∈L∨w.heap.size≤x):ButL w w'' L :=
 ⟨k.os.trans h.os,k.tape.trans h.tape,k.output.trans h.output,Nat.le_trans h.size k.size,fun j hj hL=>(k.block j (Nat.lt_of_lt_of_le hj h.size) (fun hm=>(hM j hm).elim hL fun h1=>by omega)).trans (h.block j hj hL)⟩
theorem ButL.trans {w w' w'':World} {L:List Nat} (h:ButL w w' L) (k:ButL w' w'' L):ButL w w'' L:=h.join k fun _ h => .inl h
theorem ButL.mono {w w':World} {L M:List Nat} (h:ButL w w' L) (hM : ∀x∈L,x∈M∨w.heap.size≤x):ButL w w' M:=(ButL.refl w M).join h hM
theorem ButL.of_below {w w':World} {B:Nat} (L:List Nat) (h:Below B w w') (hB:w.heap.size≤B):ButL w w' L:=⟨h.os,h.tape,h.output,h.size,fun k hk _=>h.block k (by omega)⟩
theorem ButL.of_but {w w':World} {p q:Nat} (h:But w w' p q):ButL w w' [p,q]:=⟨h.os,h.tape,h.output,h.size,fun k hk hm=>h.block k hk (by simp at hm; exact hm.1) (by simp at hm; exact hm.2)⟩
theorem ButL.of_but3 {w w':World} {p q r:Nat} (h:But3 w w' p q r):ButL w w' [p,q,r]:=⟨h.os,h.tape,h.output,h.size,fun k hk hm=>by simp at hm; exact h.block k hk hm.1 hm.2.1 hm.2.2⟩
theorem ButL.set (w:World) (r i:Nat) (v:Value):ButL w (w.setCell ⟨r,i,none⟩ v) [r]:=⟨rfl,rfl,rfl,by simp,fun k _ hm=>heap_setCell_other _ _ _ _ (by simpa using hm)⟩
theorem ButL.below {w w':World} {L:List Nat} {B:Nat} (h:ButL w w' L) (hL : ∀x∈L,B≤x) (hB:B≤w.heap.size):Below B w w' :=
 ⟨h.os,h.tape,h.output,h.size,fun k hk=>h.block k (by omega) (fun hm=>by have:=hL k hm; omega)⟩
theorem ButL.still {w w':World} (L:List Nat) (h:Still w w'):ButL w w' L := .of_below L (h.below w.heap.size) (Nat.le_refl _)
theorem ButL.grown {w w':World} {b:Nat} (h:w.grownBy w' (some b)):ButL w w' [b]:=⟨h.os,h.tape,h.output,h.size,fun k hk hm=>h.block k hk (fun e=>hm (by cases e; simp))⟩
def SetAt (w:World) (b n:Nat) (S:Int→Prop):Prop := ∃D:DataW Unit,w.ownsMap Tryz.prog 3 unitElem b n D ∧ ∀z:Int,Maps.has D (.int .i64 z)=true↔S z
section
variable {w w':World} {b n:Nat} {S:Int→Prop}
theorem SetAt.block (h:SetAt w b n S) (k:w'.heap[b]?=w.heap[b]?):SetAt w' b n S:=by
 obtain ⟨D,⟨es,clock,hb,F,hs,hD⟩,h2⟩:=h
 exact ⟨D,⟨es,clock,k.trans hb,F,hs,hD⟩,h2⟩
theorem SetAt.lt (h:SetAt w b n S):b<w.heap.size:=by
 obtain ⟨_,h1,_⟩:=h
 exact h1.lt
theorem SetAt.below (h:SetAt w b n S) {B:Nat} (k:Below B w w') (hb:b<B):SetAt w' b n S:=h.block (k.block b hb)
theorem SetAt.iff (h:SetAt w b n S) {T:Int→Prop} (k : ∀z,S z↔T z):SetAt w b n T:=by
 obtain ⟨D,h1,h2⟩:=h
 exact ⟨D,h1,fun z=>(h2 z).trans (k z)⟩
theorem SetAt.mono (h:SetAt w b n S) {m:Nat} (k:n≤m):SetAt w b m S:=by
 obtain ⟨D,h1,h2⟩:=h
 exact ⟨D,h1.mono k,h2⟩
end
theorem SetAt.made (w:World):SetAt (w.alloc (.map #[] 0)) w.heap.size 0 (fun _=>False):=⟨.map [],World.ownsMap_made _ _ _ _,fun z=>⟨fun h=>absurd h (by show ¬(false=true); decide),False.elim⟩⟩
theorem key_any (z:Int) (h1 : -9223372036854775808≤z) (h2:z≤9223372036854775807):keyOf Tryz.prog 3 (.int .i64 z)=some (.int .i64 z):=keyOf_int_mk Tryz.underlying3 (WalkArith.wf_i64 ⟨h1,h2⟩)
theorem zero_unit (w:World):(zeroValue 282).run Tryz.prog w = .ok (.agg #[]) w:=by kernel_rfl
theorem put_has {D:DataW Unit} (hD:IsMap D) {S:Int→Prop} (h : ∀z:Int,Maps.has D (.int .i64 z)=true↔S z) (y:Int) (d:DataW Unit) (z:Int):Maps.has (D.put (.int .i64 y) d) (.int .i64 z)=true↔(S z∨z=y):=by
 by_cases e:z=y
 ·subst e
  rw [has_put_same hD (show WideAt.IsKeyLit (.int .i64 z) from trivial)]
  simp
 ·rw [has_put_other (fun e'=>e (by simpa using e')),h]
  simp [e]
theorem still_any {w:World} {x sb n:Nat} {S:Int→Prop} (hx:w.cell? ⟨x,0,none⟩=some (.map (some sb))) (hs:SetAt w sb n S) (z:Int) (h1 : -9223372036854775808≤z) (h2:z≤9223372036854775807) :
  Calls Tryz.prog 237 #[.int .i64 z,.pointer (some ⟨x,0,none⟩)] w fun e w' => ∃r:Bool,e = .returned (.bool r)∧(r=true↔S z)∧Below w.heap.size w w':=by
 obtain ⟨D,hown,hD⟩:=hs
 have hkey:=key_any z h1 h2
 have HD:=Lib.hid (hD z)
 clear hD
 go_enter Tryz.func237,Tryz.ntmps237
 go_wp2_with (first
  | (at_lookup; refine wpList_lookup_own_unit _ rfl _ _ 231 rfl 3 282 law Tryz.underlying231 (zero_unit _) sb n D rfl hown _ _ rfl hkey ?_))
 go_ret
 exact ⟨_,rfl,HD.out,(Below.refl _ _).alloc (Nat.le_refl _) _⟩
end Go.Proofs.YtogchamogbendaaGreat.Pl
namespace Go.Proofs.YtogchamogbendaaGreat.Pl
open Lib (hid)
open Go.RowKit Oct Mv Tl Pk Go.Maps
def getZ (s:St) (b:Int):Int:=if 0≤b∧b<(s.n:Int) then ((s.cnt b.toNat).toNat:Int) else 0
theorem getZ_nat (s:St) {i:Nat} (h:i<s.n):getZ s (i:Int)=((s.cnt i).toNat:Int):=by
 unfold getZ
 rw [if_pos ⟨by omega,by omega⟩,Int.toNat_natCast]
theorem get_any {w:World} {a cb mb c:Nat} {s:St} (h:At w a cb mb c s) (b:Int) :
  Calls Tryz.prog 94 #[.pointer (some ⟨a,0,none⟩),.int .i64 b] w fun e w'=>e = .returned (.int .i64 (getZ s b))∧w=w':=by
 by_cases hb:0≤b∧b<(s.n:Int)
 ·obtain ⟨i,rfl⟩ : ∃i:Nat,b=(i:Int):=⟨b.toNat,by omega⟩
  have hi:i<s.n:=by omega
  rw [getZ_nat s hi]
  exact get_yes h i hi
 ·unfold getZ
  rw [if_neg hb]
  exact get_no h b (by omega)
theorem may_any {w:World} {a cb mb c:Nat} {s:St} (h:At w a cb mb c s) {sb n:Nat} {S:Int→Prop} (hs:SetAt w sb n S) (hn:n<8192) (ha:a<sb) (hc:cb<sb) (hm:mb<sb) (b:Int) (h1 : -9223372036854775808≤b) (h2:b≤9223372036854775807) :
  Calls Tryz.prog 144 #[.pointer (some ⟨a,0,none⟩),.map (some sb),.int .i64 b] w fun e w' => ∃r:Bool,e = .returned (.bool r)∧(r=true↔(b=0∨(¬S b∧getZ s b≠0)))∧(r=true→SetAt w' sb (n+1) (fun z=>S z∨(z=b∧b≠0)))∧ButL w w' [sb]:=by
 by_cases h0:b=0
 ·subst h0
  go_enter Tryz.func144,Tryz.ntmps144
  go_wp2_with fail
  go_ret
  exact ⟨true,rfl,by simp,fun _=>(hs.iff fun z=>by simp).mono (by omega),ButL.refl _ _⟩
 ·obtain ⟨D,hown,hD⟩:=hs
  have hkey:=key_any b h1 h2
  have H:=hid h
  have HD:=hid hD
  clear h hD
  cases hh:Maps.has D (.int .i64 b)
  ·have HS:=hid (show ¬S b from fun e=>by rw [(HD.out b).2 e] at hh; cases hh)
   go_enter Tryz.func144,Tryz.ntmps144
   go_wp2_with (first
    | (at_lookup; refine wpList_lookup_own_unit _ rfl _ _ 231 rfl 3 282 law Tryz.underlying231 (zero_unit _) sb n D rfl hown _ _ rfl hkey ?_; rw [hh])
    | (at_mapUpdate; refine wpList_mapUpdate_own _ rfl _ _ _ 231 rfl 3 282 law Tryz.underlying231 (unitElem (H:=Unit)) sb n _ rfl (hown.alloc _) (by unfold maxLen; omega) _ _ _ rfl rfl hkey _ [] unitElem_mk ?_; intro w1 hown1 hgrow1)
    | fail)
   have B:=(ButL.of_below [sb] ((Below.refl w.heap.size w).alloc (Nat.le_refl _) (.cells #[] 282)) (Nat.le_refl _)).trans (ButL.grown hgrow1)
   have HB:=hid B
   have A1:=hid (H.out.blocks (B.block a H.out.row.lt (by simp; omega)) (B.block cb H.out.cb_lt (by simp; omega)) (B.block mb H.out.mp.lt (by simp; omega)))
   have HO:=hid hown1
   clear B hgrow1 hown1
   refine (get_any A1.out b).mono ?_
   rintro e w' ⟨rfl,rfl⟩
   go_wp2_with fail
   go_ret
   refine ⟨_,rfl,?_,fun _=>⟨_,HO.out,fun z=>by rw [put_has hown.isMap HD.out]; simp [h0]⟩,HB.out⟩
   simp [h0,HS.out]
  ·have HS:=hid ((HD.out b).1 hh)
   go_enter Tryz.func144,Tryz.ntmps144
   go_wp2_with (first
    | (at_lookup; refine wpList_lookup_own_unit _ rfl _ _ 231 rfl 3 282 law Tryz.underlying231 (zero_unit _) sb n D rfl hown _ _ rfl hkey ?_; rw [hh])
    | (at_mapUpdate; refine wpList_mapUpdate_own _ rfl _ _ _ 231 rfl 3 282 law Tryz.underlying231 (unitElem (H:=Unit)) sb n _ rfl (hown.alloc _) (by unfold maxLen; omega) _ _ _ rfl rfl hkey _ [] unitElem_mk ?_; intro w1 hown1 hgrow1)
    | fail)
   go_ret
   have B:=(ButL.of_below [sb] ((Below.refl w.heap.size w).alloc (Nat.le_refl _) (.cells #[] 282)) (Nat.le_refl _)).trans (ButL.grown hgrow1)
   refine ⟨false,rfl,by simp [h0,HS.out],fun e=>absurd e (by decide),B⟩
def onP (l:List Nat) (z:Int):Prop := ∃m∈l,((m/61:Nat):Int)=z
structure Tells (w:World) (v:Value) (B:Nat) (S:Int→Prop):Prop where
 out : ∃x sb n,v = .func (.func 237) #[] #[.pointer (some ⟨x,0,none⟩)]∧B≤x∧B≤sb∧x<w.heap.size∧w.cell? ⟨x,0,none⟩=some (.map (some sb))∧SetAt w sb n S
theorem Tells.below {w w':World} {v:Value} {B:Nat} {S:Int→Prop} (h:Tells w v B S) (k:Below w.heap.size w w'):Tells w' v B S:=by
 obtain ⟨x,sb,n,h1,h2,h3,h4,h5,h6⟩:=h.out
 exact ⟨x,sb,n,h1,h2,h3,Nat.lt_of_lt_of_le h4 k.size,(k.cell h4).trans h5,h6.below k h6.lt⟩
theorem Tells.lo {w:World} {v:Value} {B C:Nat} {S:Int→Prop} (h:Tells w v B S) (k:C≤B):Tells w v C S:=by
 obtain ⟨x,sb,n,h1,h2,h3,h4,h5,h6⟩:=h.out
 exact ⟨x,sb,n,h1,by omega,by omega,h4,h5,h6⟩
set_option maxHeartbeats 1000000 in
theorem has_any {w:World} {v:Value} {l:List Nat} (h:List64 w v l) (hl:l.length≤4096) (hm : ∀m∈l,m≤4096) :
  Calls Tryz.prog 216 #[v] w fun e w' => ∃u,e = .returned u∧Tells w' u w.heap.size (onP l)∧Below w.heap.size w w':=by
 obtain ⟨A,cap,rfl,ht⟩:=h
 have HT:=hid ht
 have hmm := @run_makeMap Tryz.prog
 have S0:=SetAt.made w
 have hz:(w.alloc (.map #[] 0)).heap.size=w.heap.size+1:=by simp
 have B1:=(Below.refl w.heap.size w).alloc (Nat.le_refl _) (.map #[] 0)
 have B2:=(Below.refl (w.alloc (.map #[] 0)).heap.size (w.alloc (.map #[] 0))).alloc (Nat.le_refl _) (.cells #[.map (some w.heap.size)] 231)
 have R2:=alloc_rowV (w.alloc (.map #[] 0)) 231 [.map (some w.heap.size)]
 rw [hz] at R2 B2
 have HS:=hid (S0.below B2 (by omega))
 have HR:=hid R2
 have HB:=hid (B1.trans (B2.mono (by omega)))
 have HM:=hid hm
 clear ht S0 B1 B2 R2 hm
 go_enter Tryz.func216,Tryz.ntmps216
 go_wp2_with fail
 have hl1 : ∀k,k≤l.length→k<8192:=fun k hk=>by omega
 generalize (w.alloc (.map #[] 0)).alloc (.cells #[.map (some w.heap.size)] 231)=w1 at *
 go_loopw [11] (fun i wr => ∃k:Nat,k≤l.length∧i = .int .i64 (k:Int)∧Hid (SetAt wr w.heap.size k (onP (l.take k)))∧Hid (RowV wr (w.heap.size+1) 231 [.map (some w.heap.size)])∧Hid (Below w.heap.size w wr)∧w.heap.size+2≤wr.heap.size) (fun i _=>l.length-(Go.RowKit.intOf i).toNat)
 case atStart=>exact ⟨0,Nat.zero_le _,rfl,hid (HS.out.iff fun z=>by simp [onP]),HR,HB,by have:=HR.out.lt; omega⟩
 case round =>
  obtain ⟨k,hk,rfl,HS2,HR2,HB2,hsz⟩:=hrel
  by_cases hlt:k<l.length
  ·have hki:(k:Int)<(l.length:Int):=by omega
   have HN:=hid (HM.out (l[k]) (List.getElem_mem hlt))
   have hrun : ∃b o,A=some ⟨b,o,none⟩∧wr.cell? ⟨b,o+k,none⟩=some (.int .i64 ((l[k]:Nat):Int)):=by
    obtain ⟨b,o,h1,h2⟩:=HT.out.has (by rw [length_ints]; omega)
    refine ⟨b,o,h1,?_⟩
    have hb:=h2.lt (by rw [length_ints]; omega)
    exact (HB2.out.cell (p:=⟨b,o+k,none⟩) hb).trans (h2.cellAt (Tl.ints_at l k hlt))
   obtain ⟨b,o,rfl,hc⟩:=hrun
   obtain ⟨m,hmk⟩ : ∃m,m=l[k]:=⟨_,rfl⟩
   rw [← hmk] at hc HN
   have HK:=hid hmk
   clear hmk
   have hm9:m≤9223372036854775807:=by have:=HN.out; omega
   go_wp2_with fail
   refine (place_pos m hm9 _).mono ?_
   rintro e w' ⟨rfl,rfl⟩
   have c0:=HR2.out.cellAt (i:=0) rfl
   have hkey:=key_any ((m/61:Nat):Int) (by omega) (by have:=HN.out; omega)
   obtain ⟨D,hown,hD⟩:=HS2.out
   have HD:=hid hD
   clear hD
   have hk8:=hl1 k hk
   go_wp2_with (first
    | (at_mapUpdate; refine wpList_mapUpdate_own _ rfl _ _ _ 231 rfl 3 282 law Tryz.underlying231 (unitElem (H:=Unit)) w.heap.size k _ rfl hown (by unfold maxLen; omega) _ _ _ rfl rfl hkey _ [] unitElem_mk ?_; intro w2 hown1 hgrow1)
    | fail)
   have B2:=ButL.grown hgrow1
   have HS3:SetAt w2 w.heap.size (k+1) (onP (l.take (k+1))):=⟨_,hown1,fun z=>by
    rw [put_has hown.isMap HD.out]
    unfold onP
    rw [List.take_add_one,List.getElem?_eq_getElem hlt,← HK.out]
    simp only [List.mem_append,Option.toList_some,List.mem_singleton]
    constructor
    ·rintro (⟨y,hy,e⟩ | e)
     ·exact ⟨y,.inl hy,e⟩
     ·exact ⟨m,.inr rfl,e.symm⟩
    ·rintro ⟨y,hy | rfl,e⟩
     ·exact .inl ⟨y,hy,e⟩
     ·exact .inr e.symm⟩
   go_roundw
   case rel=>exact ⟨k+1,by omega,by go_num,hid HS3,hid (HR2.out.block (B2.block _ HR2.out.lt (by simp))),hid (HB2.out.trans (B2.below (by simp) (by omega))),by have:=B2.size; omega⟩
   case measure=>simp [Go.RowKit.intOf]; omega
  ·have hki : ¬(k:Int)<(l.length:Int):=by omega
   obtain rfl:k=l.length:=by omega
   go_wp2_with fail
   go_ret
   exact ⟨_,rfl,⟨⟨w.heap.size+1,w.heap.size,l.length,rfl,by omega,Nat.le_refl _,HR2.out.lt,HR2.out.cellAt (i:=0) rfl,HS2.out.iff fun z=>by rw [List.take_length]⟩⟩,HB2.out⟩
end Go.Proofs.YtogchamogbendaaGreat.Pl
namespace Go.Proofs.YtogchamogbendaaGreat.Pl
open Lib (hid)
open Go.RowKit Oct Mv Tl Pk Go.Maps
def zs (l:List Int):List Value:=l.map (Value.int .i64)
theorem length_zs (l:List Int):(zs l).length=l.length:=by simp [zs]
theorem zs_at (l:List Int) {i:Nat} (h:i<l.length):(zs l)[i]?=some (.int .i64 (l.getD i 0)):=by simp [zs,h]
theorem zs_toI (l:List Nat):zs (toI l)=ints l:=by simp [zs,toI,ints]
def R64 (l:List Int):Prop := ∀z∈l,-9223372036854775808≤z∧z≤9223372036854775807
theorem R64.at' {l:List Int} (h:R64 l) {i:Nat} (hi:i<l.length) : -9223372036854775808≤l.getD i 0∧l.getD i 0≤9223372036854775807:=by
 have e:l.getD i 0=l[i]:=by simp [hi]
 rw [e]
 exact h _ (List.getElem_mem hi)
theorem R64.toI {l:List Nat} (h : ∀m∈l,m≤9223372036854775807):R64 (toI l):=by
 intro z hz
 simp only [Tl.toI,List.mem_map] at hz
 obtain ⟨m,hm,rfl⟩:=hz
 have:=h m hm
 omega
def okAt (s:St) (L:List Int) (i:Nat):Prop:=L.getD i 0=0∨((∀k,k<i→L.getD k 0≠L.getD i 0)∧getZ s (L.getD i 0)≠0)
def RightS (s:St) (l1 l2:List Int):Prop:=l1.length=pg s.n∧l2.length=pg (pg s.n) ∧ ∀i,i<(l1++l2).length→okAt s (l1++l2) i
def seenP (L:List Int) (j:Nat) (z:Int):Prop:=z≠0 ∧ ∃k,k<j∧L.getD k 0=z
theorem seen_zero (L:List Int) (z:Int):False↔seenP L 0 z:=⟨False.elim,fun ⟨_,k,hk,_⟩=>by omega⟩
theorem seen_succ (L:List Int) (j:Nat) {b:Int} (hb:L.getD j 0=b) (z:Int):(seenP L j z∨(z=b∧b≠0))↔seenP L (j+1) z:=by
 constructor
 ·rintro (⟨h,k,hk,e⟩ | ⟨rfl,h⟩)
  ·exact ⟨h,k,by omega,e⟩
  ·exact ⟨h,j,by omega,hb⟩
 ·rintro ⟨h,k,hk,e⟩
  by_cases hj:k=j
  ·subst hj
   exact .inr ⟨(hb.symm.trans e).symm,by rw [← hb,e]; exact h⟩
  ·exact .inl ⟨h,k,by omega,e⟩
theorem ok_iff {s:St} {L:List Int} {j:Nat} {b:Int} (hb:L.getD j 0=b):(b=0∨(¬seenP L j b∧getZ s b≠0))↔okAt s L j:=by
 unfold okAt
 rw [hb]
 constructor
 ·rintro (h | ⟨h,k⟩)
  ·exact .inl h
  ·by_cases h0:b=0
   ·exact .inl h0
   ·exact .inr ⟨fun i hi e=>h ⟨h0,i,hi,e⟩,k⟩
 ·rintro (h | ⟨h,k⟩)
  ·exact .inl h
  ·exact .inr ⟨fun ⟨_,i,hi,e⟩=>h i hi e,k⟩
theorem pg_pos {n:Nat} (h:1≤n):pg n≠0:=by unfold pg; omega
theorem pg_le {n:Nat} (h:n≤4096):pg n≤68:=by unfold pg; omega
theorem told_at {w:World} {A:Option Addr} {l:List Int} (h:ToldV w A (zs l)) {j:Nat} (hj:j<l.length) : ∃b o,A=some ⟨b,o,none⟩∧b<w.heap.size∧w.cell? ⟨b,o+j,none⟩=some (.int .i64 (l.getD j 0)):=by
 obtain ⟨b,o,h1,h2⟩:=h.has (by rw [length_zs]; omega)
 exact ⟨b,o,h1,h2.lt (by rw [length_zs]; omega),h2.cellAt (zs_at l hj)⟩
theorem ix0 (w:World) (A1 A2:Option Addr) (n1 n2 c1 c2:Nat):(Instr.index 232 (.agg #[.slice A1 n1 c1,.slice A2 n2 c2]) (.int .i64 0)).run Tryz.prog w = .ok (.slice A1 n1 c1) w:=by kernel_rfl
theorem ix1 (w:World) (A1 A2:Option Addr) (n1 n2 c1 c2:Nat):(Instr.index 232 (.agg #[.slice A1 n1 c1,.slice A2 n2 c2]) (.int .i64 1)).run Tryz.prog w = .ok (.slice A2 n2 c2) w:=by kernel_rfl
def shv (A1 A2:Option Addr) (n1 n2 c1 c2:Nat):Value := .agg #[.slice A1 n1 c1,.slice A2 n2 c2]
set_option maxHeartbeats 4000000 in
theorem right_any {w:World} {a cb mb c:Nat} {s:St} (h:At w a cb mb c s) {A1 A2:Option Addr} {c1 c2:Nat} {l1 l2:List Int} (h1:ToldV w A1 (zs l1)) (h2:ToldV w A2 (zs l2)) (r1:R64 l1) (r2:R64 l2) :
  Calls Tryz.prog 77 #[.pointer (some ⟨a,0,none⟩),shv A1 A2 l1.length l2.length c1 c2] w fun e w' => ∃r:Bool,e = .returned (.bool r)∧(r=true↔RightS s l1 l2)∧Below w.heap.size w w':=by
 have B1:=(Below.refl w.heap.size w).alloc (Nat.le_refl _) (.cells #[.slice A1 l1.length c1,.slice A2 l2.length c2] 65)
 have R1:=alloc_rowV w 65 [.slice A1 l1.length c1,.slice A2 l2.length c2]
 have H:=hid h
 have HA:=hid (h.kept B1)
 have HB:=hid B1
 have HR:=hid R1
 have hn:s.n≤4096:=h.ok.hi
 have hn1:1≤s.n:=h.ok.lo
 have hp:=pg_le hn
 have hpp:=pg_le (n:=pg s.n) (by omega)
 have hp0 : ¬((pg s.n:Int)=0):=by have:=pg_pos hn1; omega
 have hp0b:((pg s.n:Int)==0)=false:=by simpa using hp0
 have H1:=hid h1
 have H2:=hid h2
 have HX1:=hid r1
 have HX2:=hid r2
 clear h B1 R1 h1 h2 r1 r2 hn1
 unfold shv
 go_enter Tryz.func77,Tryz.ntmps77
 go_wp2_with fail
 refine (blocks_at HA.out).mono ?_
 rintro e w' ⟨rfl,rfl⟩
 go_wp2_with fail
 refine (pages_eq s.n (by omega) _).mono ?_
 rintro e w' ⟨rfl,rfl⟩
 generalize w.alloc (.cells #[.slice A1 l1.length c1,.slice A2 l2.length c2] 65)=w1 at *
 obtain ⟨g,hg⟩ : ∃g,g=w.heap.size:=⟨_,rfl⟩
 rw [← hg] at HR ⊢
 clear hg
 have d0:=HR.out.cellAt (i:=0) rfl
 have d1:=HR.out.cellAt (i:=1) rfl
 by_cases hl1:l1.length=pg s.n
 ·have hl1i:(l1.length:Int)=(pg s.n:Int):=by omega
  by_cases hl2:l2.length=pg (pg s.n)
  ·have hl2i:(l2.length:Int)=(pg (pg s.n):Int):=by omega
   go_upto_region 2 with (fail)
   go_quiet ((go_at_call 98; exact Calls.quiet_of_same (calls_flip (pages_eq (pg s.n) (by omega) _))))
   have HB2:=hid (HB.out.trans (((show Still w1 (w1.drewN nq) from ⟨rfl,rfl,rfl,rfl⟩)).below _))
   have HR2:=hid (HR.out.still (show Still w1 (w1.drewN nq) from ⟨rfl,rfl,rfl,rfl⟩))
   clear d0 d1 HA HB HR
   generalize w1.drewN nq=w2 at *
   have d0:=HR2.out.cellAt (i:=0) rfl
   have d1:=HR2.out.cellAt (i:=1) rfl
   have HE:=hid (And.intro hl1 hl2)
   have hlen:l1.length+l2.length≤200:=by omega
   clear hl1 hl1i hl2 hl2i
   have hmm := @run_makeMap Tryz.prog
   have HB3:=hid (HB2.out.trans (((Below.refl w2.heap.size w2).alloc (Nat.le_refl _) (.map #[] 0)).mono HB2.out.size))
   have HS3:=hid (SetAt.made w2)
   have HR3:=hid (HR2.out.below HR2.out.lt ((Below.refl w2.heap.size w2).alloc (Nat.le_refl _) (.map #[] 0)))
   have hsb:=HB2.out.size
   go_upto_region 5 with (fail)
   clear d0 d1
   generalize w2.alloc (.map #[] 0)=w3 at *
   have d0:=HR3.out.cellAt (i:=0) rfl
   have d1:=HR3.out.cellAt (i:=1) rfl
   obtain ⟨sb,hsbe⟩ : ∃sb,sb=w2.heap.size:=⟨_,rfl⟩
   rw [← hsbe] at HS3 hsb ⊢
   clear hsbe HR2 HB2
   have hL:=hid (show (l1++l2).length=l1.length+l2.length from List.length_append)
   have HG1:=hid (fun j (hj:j<l1.length)=>show (l1++l2).getD j 0=l1.getD j 0 by simp only [List.getD_eq_getElem?_getD]; rw [List.getElem?_append_left hj])
   have HG2:=hid (fun j (hj:j<l2.length)=>show (l1++l2).getD (l1.length+j) 0=l2.getD j 0 by simp only [List.getD_eq_getElem?_getD]; rw [List.getElem?_append_right (by omega)]; congr 2; omega)
   obtain ⟨L,hLe⟩ : ∃L,L=l1++l2:=⟨_,rfl⟩
   rw [← hLe] at HG1 HG2 hL
   have HLE:=hid hLe
   clear hLe
   go_wp2_with fail
   clear d0 d1
   have hix0:=ix0
   have hix1:=ix1
   go_loopw [37] (fun i wr => ∃o:Nat,((i = .int .i64 0∧o=0)∨(i = .int .i64 1∧o=l1.length)∨(i = .int .i64 2∧o=l1.length+l2.length))∧Hid (SetAt wr sb o (seenP L o))∧Hid (Below w.heap.size w wr)∧Hid (∀i,i<o→okAt s L i)) (fun i _=>2-(Go.RowKit.intOf i).toNat)
   case atStart=>exact ⟨0,.inl ⟨rfl,rfl⟩,hid (HS3.out.iff (seen_zero L)),HB3,hid (fun i hi=>by omega)⟩
   case round =>
    obtain ⟨o,hko,HS,HBr,HO⟩:=hrel
    obtain ⟨wm,hwm⟩ : ∃x,x=wr:=⟨_,rfl⟩
    subst hwm
    rcases hko with ⟨rfl,rfl⟩ | ⟨rfl,rfl⟩ | ⟨rfl,rfl⟩
    ·go_wp2_with fail
     go_loopw [42] (fun i wr => ∃j:Nat,j≤l1.length∧i = .int .i64 (j:Int)∧Hid (SetAt wr sb (0+j) (seenP L (0+j)))∧Hid (Below w.heap.size w wr)∧Hid (∀i,i<0+j→okAt s L i)) (fun i _=>l1.length-(Go.RowKit.intOf i).toNat)
     case atStart=>exact ⟨0,Nat.zero_le _,rfl,HS,HBr,HO⟩
     case round =>
      obtain ⟨j,hj,rfl,HS4,HB4,HO4⟩:=hrel
      by_cases hlt:j<l1.length
      ·have hji:(j:Int)<(l1.length:Int):=by omega
       obtain ⟨bb,oo,rfl,hbb,hc0⟩:=told_at H1.out hlt
       have hc:wr.cell? ⟨bb,oo+j,none⟩=some (.int .i64 (l1.getD j 0)):=(HB4.out.cell (p:=⟨bb,oo+j,none⟩) hbb).trans hc0
       obtain ⟨hy1,hy2⟩:=HX1.out.at' hlt
       have HY:=hid ((show L.getD (0+j) 0=l1.getD j 0 by rw [Nat.zero_add]; exact HG1.out j hlt))
       clear hc0
       generalize l1.getD j 0=y at *
       have hos:0+j<8192:=by omega
       go_wp2_with fail
       refine (may_any (H.out.kept HB4.out) HS4.out hos (Nat.lt_of_lt_of_le H.out.row.lt hsb) (Nat.lt_of_lt_of_le H.out.cb_lt hsb) (Nat.lt_of_lt_of_le H.out.mp.lt hsb) y hy1 hy2).mono ?_
       rintro e w5 ⟨r,rfl,hr1,hr2,hr3⟩
       have HI:=hid (hr1.trans (ok_iff HY.out))
       have HS5:=hid hr2
       have HB5:=hid (HB4.out.trans (hr3.below (B:=w.heap.size) (by simp; exact hsb) HB4.out.size))
       clear hr1 hr2 hr3
       cases r
       ·go_wp2_with fail
        go_ret
        refine ⟨false,rfl,⟨fun e=>absurd e (by decide),fun e => ?_⟩,HB5.out⟩
        have:=HI.out.2 (HLE.out▸e.2.2 (0+j) (by rw [← HLE.out,hL.out]; omega))
        cases this
       ·go_wp2_with fail
        go_roundw
        case rel =>
         have hS6:=(HS5.out (by simp)).iff (seen_succ L (0+j) HY.out)
         have hO6 : ∀i,i<0+(j+1)→okAt s L i:=fun i hi=>(Nat.lt_or_ge i (0+j)).elim (fun h=>HO4.out i h) (fun h=>by rw [show i=0+j by omega]; exact HI.out.1 (by simp))
         exact ⟨j+1,by omega,by go_num,hid hS6,HB5,hid hO6⟩
        case measure=>simp [Go.RowKit.intOf]; omega
      ·have hji : ¬(j:Int)<(l1.length:Int):=by omega
       obtain rfl:j=l1.length:=by omega
       go_wp2_with fail
       go_roundw
       case rel=>exact ⟨0+l1.length,.inr (.inl ⟨rfl,by omega⟩),HS4,HB4,HO4⟩
       case measure=>simp [Go.RowKit.intOf]
    ·go_wp2_with fail
     go_loopw [42] (fun i wr => ∃j:Nat,j≤l2.length∧i = .int .i64 (j:Int)∧Hid (SetAt wr sb (l1.length+j) (seenP L (l1.length+j)))∧Hid (Below w.heap.size w wr)∧Hid (∀i,i<l1.length+j→okAt s L i)) (fun i _=>l2.length-(Go.RowKit.intOf i).toNat)
     case atStart=>exact ⟨0,Nat.zero_le _,rfl,HS,HBr,HO⟩
     case round =>
      obtain ⟨j,hj,rfl,HS4,HB4,HO4⟩:=hrel
      by_cases hlt:j<l2.length
      ·have hji:(j:Int)<(l2.length:Int):=by omega
       obtain ⟨bb,oo,rfl,hbb,hc0⟩:=told_at H2.out hlt
       have hc:wr.cell? ⟨bb,oo+j,none⟩=some (.int .i64 (l2.getD j 0)):=(HB4.out.cell (p:=⟨bb,oo+j,none⟩) hbb).trans hc0
       obtain ⟨hy1,hy2⟩:=HX2.out.at' hlt
       have HY:=hid (HG2.out j hlt)
       clear hc0
       generalize l2.getD j 0=y at *
       have hos:l1.length+j<8192:=by omega
       go_wp2_with fail
       refine (may_any (H.out.kept HB4.out) HS4.out hos (Nat.lt_of_lt_of_le H.out.row.lt hsb) (Nat.lt_of_lt_of_le H.out.cb_lt hsb) (Nat.lt_of_lt_of_le H.out.mp.lt hsb) y hy1 hy2).mono ?_
       rintro e w5 ⟨r,rfl,hr1,hr2,hr3⟩
       have HI:=hid (hr1.trans (ok_iff HY.out))
       have HS5:=hid hr2
       have HB5:=hid (HB4.out.trans (hr3.below (B:=w.heap.size) (by simp; exact hsb) HB4.out.size))
       clear hr1 hr2 hr3
       cases r
       ·go_wp2_with fail
        go_ret
        refine ⟨false,rfl,⟨fun e=>absurd e (by decide),fun e => ?_⟩,HB5.out⟩
        have:=HI.out.2 (HLE.out▸e.2.2 (l1.length+j) (by rw [← HLE.out,hL.out]; omega))
        cases this
       ·go_wp2_with fail
        go_roundw
        case rel =>
         have hS6:=(HS5.out (by simp)).iff (seen_succ L (l1.length+j) HY.out)
         have hO6 : ∀i,i<l1.length+(j+1)→okAt s L i:=fun i hi=>(Nat.lt_or_ge i (l1.length+j)).elim (fun h=>HO4.out i h) (fun h=>by rw [show i=l1.length+j by omega]; exact HI.out.1 (by simp))
         exact ⟨j+1,by omega,by go_num,hid hS6,HB5,hid hO6⟩
        case measure=>simp [Go.RowKit.intOf]; omega
      ·have hji : ¬(j:Int)<(l2.length:Int):=by omega
       obtain rfl:j=l2.length:=by omega
       go_wp2_with fail
       go_roundw
       case rel=>exact ⟨l1.length+l2.length,.inr (.inr ⟨rfl,rfl⟩),HS4,HB4,HO4⟩
       case measure=>simp [Go.RowKit.intOf]
    ·go_wp2_with fail
     go_ret
     refine ⟨true,rfl,⟨fun _=>⟨HE.out.1,HE.out.2,?_⟩,fun _=>rfl⟩,HBr.out⟩
     rw [← HLE.out]
     intro i hi
     exact HO.out i (by rw [hL.out] at hi; exact hi)
  ·have hl2i : ¬((l2.length:Int)=(pg (pg s.n):Int)):=by omega
   have hl2b:((l2.length:Int)==(pg (pg s.n):Int))=false:=by simpa using hl2i
   go_upto_region 2 with (fail)
   go_quiet ((go_at_call 98; exact Calls.quiet_of_same (calls_flip (pages_eq (pg s.n) (by omega) _))))
   have HB2:=hid (HB.out.trans (((show Still w1 (w1.drewN nq) from ⟨rfl,rfl,rfl,rfl⟩)).below _))
   clear d0 d1
   generalize w1.drewN nq=w2 at *
   go_wp2_with fail
   go_ret
   exact ⟨false,rfl,⟨fun e=>absurd e (by decide),fun e=>absurd e.2.1 hl2⟩,HB2.out⟩
 ·have hl1i : ¬((l1.length:Int)=(pg s.n:Int)):=by omega
  have hl1b:((l1.length:Int)==(pg s.n:Int))=false:=by simpa using hl1i
  go_upto_region 2 with (fail)
  go_quiet (fail)
  have HB2:=hid (HB.out.trans (((show Still w1 (w1.drewN nq) from ⟨rfl,rfl,rfl,rfl⟩)).below _))
  clear d0 d1
  generalize w1.drewN nq=w2 at *
  go_wp2_with fail
  go_ret
  exact ⟨false,rfl,⟨fun e=>absurd e (by decide),fun e=>absurd e.1 hl1⟩,HB2.out⟩
end Go.Proofs.YtogchamogbendaaGreat.Pl
namespace Go.Proofs.YtogchamogbendaaGreat.Pl
open Lib (hid)
open Go.RowKit Oct Mv Tl Pk Go.Maps
def askP (l:List Nat) (f:List Bool) (S:Int→Prop) (i:Nat):Prop:=i<l.length∧f.getD i false=false∧(l.getD i 0=0∨S (i:Int))
theorem bools_at (f:List Bool) {i:Nat} (h:i<f.length):(bools f)[i]?=some (.bool (f.getD i false)):=by simp [bools,h]
theorem length_bools (f:List Bool):(bools f).length=f.length:=by simp [bools]
theorem row_int {w:World} {g i:Nat} {T:TypeId} {l:List Nat} {sp:List Value} (h:RowV w g T (ints l++sp)) (hi:i<l.length):w.cell? ⟨g,i,none⟩=some (.int .i64 ((l.getD i 0:Nat):Int)):=by
 refine h.cellAt ?_
 rw [List.getElem?_append_left (by rw [length_ints]; exact hi),Tl.ints_at l i hi]
 simp [hi]
theorem row_bool {w:World} {g i:Nat} {T:TypeId} {f:List Bool} {sp:List Value} (h:RowV w g T (bools f++sp)) (hi:i<f.length):w.cell? ⟨g,i,none⟩=some (.bool (f.getD i false)):=by
 refine h.cellAt ?_
 rw [List.getElem?_append_left (by rw [length_bools]; exact hi),bools_at f hi]
def pgv (g1 g2 n c1 c2:Nat):Value := .agg #[.slice (some ⟨g1,0,none⟩) n c1,.slice (some ⟨g2,0,none⟩) n c2]
def FirstP (l:List Nat) (f:List Bool) (S:Int→Prop) (i:Nat) (ok:Bool):Prop:=if ok then askP l f S i ∧ ∀j,j<i → ¬askP l f S j else i=0 ∧ ∀j,¬askP l f S j
theorem FirstP.yes {l:List Nat} {f:List Bool} {S:Int→Prop} {i:Nat} (h:askP l f S i) (k : ∀j,j<i → ¬askP l f S j):FirstP l f S i true:=⟨h,k⟩
theorem FirstP.no {l:List Nat} {f:List Bool} {S:Int→Prop} (k : ∀j,¬askP l f S j):FirstP l f S 0 false:=⟨rfl,k⟩
def FirstOut (w:World) (l:List Nat) (f:List Bool) (S:Int→Prop) (e:Ending) (w':World):Prop := ∃i ok,e = .returned (.tuple #[.int .i64 ((i:Nat):Int),.bool ok])∧FirstP l f S i ok∧Below w.heap.size w w'
set_option maxHeartbeats 2000000 in
theorem first_any {w:World} {g1 g2 c1 c2 B:Nat} {l:List Nat} {f:List Bool} {sp1 sp2:List Value} {v:Value} {S:Int→Prop} (h1:RowV w g1 3 (ints l++sp1)) (h2:RowV w g2 4 (bools f++sp2)) (hf:f.length=l.length) (hl:l.length≤4096) (hT:Tells w v B S) :
  Calls Tryz.prog 217 #[pgv g1 g2 l.length c1 c2,v] w (FirstOut w l f S):=by
 have B1:=(Below.refl w.heap.size w).alloc (Nat.le_refl _) (.cells #[.slice (some ⟨g1,0,none⟩) l.length c1,.slice (some ⟨g2,0,none⟩) l.length c2] 293)
 have HR:=hid (alloc_rowV w 293 [.slice (some ⟨g1,0,none⟩) l.length c1,.slice (some ⟨g2,0,none⟩) l.length c2])
 have H1:=hid (h1.below h1.lt B1)
 have H2:=hid (h2.below h2.lt B1)
 have HT:=hid (hT.below B1)
 have HB:=hid B1
 clear h1 h2 hT B1
 unfold pgv
 go_enter Tryz.func217,Tryz.ntmps217
 go_upto_region 1 with (fail)
 generalize w.alloc (.cells #[.slice (some ⟨g1,0,none⟩) l.length c1,.slice (some ⟨g2,0,none⟩) l.length c2] 293)=w1 at *
 obtain ⟨r,hr⟩ : ∃r,r=w.heap.size:=⟨_,rfl⟩
 rw [← hr] at HR ⊢
 clear hr
 have d0:=HR.out.cellAt (i:=0) rfl
 go_wp2_with fail
 clear d0
 go_loopw [11] (fun i wr => ∃k:Nat,k≤l.length∧i = .int .i64 (k:Int)∧Hid (∀j,j<k → ¬askP l f S j)∧Hid (Below w1.heap.size w1 wr)) (fun i _=>l.length-(Go.RowKit.intOf i).toNat)
 case atStart=>exact ⟨0,Nat.zero_le _,rfl,hid (fun j hj=>by omega),hid (Below.refl _ _)⟩
 case round =>
  obtain ⟨k,hk,rfl,HN,HBr⟩:=hrel
  by_cases hlt:k<l.length
  ·have hki:(k:Int)<(l.length:Int):=by omega
   have hge:(0:Int)≤(k:Int):=by omega
   have R:=HR.out.below HR.out.lt HBr.out
   have d0:=R.cellAt (i:=0) rfl
   have d1:=R.cellAt (i:=1) rfl
   have e1:=row_int (H1.out.below H1.out.lt HBr.out) hlt
   have e2:=row_bool (H2.out.below H2.out.lt HBr.out) (i:=k) (by omega)
   have HT2:=hid (HT.out.below HBr.out)
   have HA:=hid (show askP l f S k↔(f.getD k false=false∧(l.getD k 0=0∨S (k:Int))) from ⟨fun h=>h.2,fun h=>⟨hlt,h⟩⟩)
   clear R
   have hnext : ¬askP l f S k → ∀j,j<k+1 → ¬askP l f S j:=fun h j hj=>(Nat.lt_or_ge j k).elim (HN.out j) (fun h2=>by rw [show j=k by omega]; exact h)
   have HNX:=hid hnext
   clear hnext
   cases hfk:f.getD k false
   ·rw [hfk] at e2 HA
    by_cases h0:l.getD k 0=0
    ·rw [h0] at e1 HA
     go_wp2_with fail
     go_ret2
     exact ⟨k,true,rfl,FirstP.yes (HA.out.2 ⟨by simp,.inl (by simp)⟩) HN.out,HB.out.trans (HBr.out.mono HB.out.size)⟩
    ·have h0i : ¬(((l.getD k 0:Nat):Int)=0):=by omega
     have h0b:(((l.getD k 0:Nat):Int)==0)=false:=by simpa using h0i
     obtain ⟨x,sb,n,rfl,hx1,hx2,hx3,hx4,hx5⟩:=HT2.out.out
     generalize l.getD k 0=y at *
     clear h0i
     go_wp2_with fail
     refine (still_any hx4 hx5 (k:Int) (by omega) (by omega)).mono ?_
     rintro e w4 ⟨q,rfl,hq,bz⟩
     have HB4:=hid (HBr.out.trans (bz.mono HBr.out.size))
     have HQ:=hid hq
     clear bz hq hx1 hx2 hx3 hx4 hx5
     cases q
     ·go_wp2_with fail
      go_roundw
      case rel=>exact ⟨k+1,by omega,by go_num,hid (HNX.out (fun h=>(HA.out.1 h).2.elim h0 (fun h=>by have:=HQ.out.2 h; simp at this))),HB4⟩
      case measure=>simp [Go.RowKit.intOf]; omega
     ·go_wp2_with fail
      go_ret2
      exact ⟨k,true,rfl,FirstP.yes (HA.out.2 ⟨by simp,.inr (HQ.out.1 (by simp))⟩) HN.out,HB.out.trans (HB4.out.mono HB.out.size)⟩
   ·rw [hfk] at e2 HA
    go_wp2_with fail
    go_roundw
    case rel=>exact ⟨k+1,by omega,by go_num,hid (HNX.out (fun h=>by have:=(HA.out.1 h).1; simp at this)),HBr⟩
    case measure=>simp [Go.RowKit.intOf]; omega
  ·have hki : ¬(k:Int)<(l.length:Int):=by omega
   obtain rfl:k=l.length:=by omega
   go_wp2_with fail
   go_ret2
   exact ⟨0,false,rfl,FirstP.no (fun j hj=>(Nat.lt_or_ge j l.length).elim (fun h=>HN.out j h hj) (fun h=>by have:=hj.1; omega)),HB.out.trans (HBr.out.mono HB.out.size)⟩
def doneK (f:List Bool) (k:Nat):List Nat:=(List.range k).filter fun i=>f.getD i false
def doneL (f:List Bool):List Nat:=doneK f f.length
theorem done_yes {f:List Bool} {k:Nat} (h:f.getD k false=true):doneK f (k+1)=doneK f k ++ [k]:=by
 unfold doneK
 rw [List.range_succ,List.filter_append]
 congr 1
 simp only [List.filter_cons,List.filter_nil]
 rw [if_pos h]
theorem done_no {f:List Bool} {k:Nat} (h:f.getD k false=false):doneK f (k+1)=doneK f k:=by
 unfold doneK
 rw [List.range_succ,List.filter_append]
 simp only [List.filter_cons,List.filter_nil]
 rw [if_neg (by rw [h]; decide),List.append_nil]
theorem done_le (f:List Bool) (k:Nat):(doneK f k).length≤k:=by
 have:=List.length_filter_le (fun i=>f.getD i false) (List.range k)
 rwa [List.length_range] at this
theorem mem_done {f:List Bool} {i:Nat}:i∈doneL f↔f.getD i false=true:=by
 unfold doneL doneK
 rw [List.mem_filter,List.mem_range]
 constructor
 ·exact fun h=>h.2
 ·intro h
  refine ⟨?_,h⟩
  rcases Nat.lt_or_ge i f.length with h1 | h1
  ·exact h1
  ·rw [List.getD_eq_getElem?_getD,List.getElem?_eq_none h1] at h
   cases h
set_option maxHeartbeats 2000000 in
theorem done_any {w:World} {g2 n c2:Nat} {f:List Bool} {sp2:List Value} {c1:Nat} {g1:Option Addr} (h2:RowV w g2 4 (bools f++sp2)) (hf:f.length≤4096) :
  Calls Tryz.prog 199 #[.agg #[.slice g1 n c1,.slice (some ⟨g2,0,none⟩) f.length c2]] w fun e w' => ∃v,e = .returned v∧List64 w' v (doneL f)∧Below w.heap.size w w':=by
 have B1:=(Below.refl w.heap.size w).alloc (Nat.le_refl _) (.cells #[.slice g1 n c1,.slice (some ⟨g2,0,none⟩) f.length c2] 293)
 have HR:=hid (alloc_rowV w 293 [.slice g1 n c1,.slice (some ⟨g2,0,none⟩) f.length c2])
 have H2:=hid (h2.below h2.lt B1)
 have HB:=hid B1
 clear h2 B1
 go_enter Tryz.func199,Tryz.ntmps199
 go_upto_region 2 with (fail)
 generalize w.alloc (.cells #[.slice g1 n c1,.slice (some ⟨g2,0,none⟩) f.length c2] 293)=w1 at *
 obtain ⟨r,hr⟩ : ∃r,r=w.heap.size:=⟨_,rfl⟩
 rw [← hr] at HR ⊢
 clear hr
 have d1:=HR.out.cellAt (i:=1) rfl
 obtain ⟨B,hB⟩ : ∃B,B=w1.heap.size:=⟨_,rfl⟩
 have HBW:=hid (show w.heap.size≤B by rw [hB]; exact HB.out.size)
 have HBE:=hid hB
 clear hB
 go_wp2_with fail
 clear d1
 go_loopw [9,3] (fun i v wr => ∃k:Nat,k≤f.length∧i = .int .i64 (k:Int)∧Hid (OwnI wr B v (toI (doneK f k)))∧Hid (Below w1.heap.size w1 wr)) (fun i _ _=>f.length-(Go.RowKit.intOf i).toNat)
 case atStart=>exact ⟨0,Nat.zero_le _,rfl,hid (own_nil _ _),hid (Below.refl _ _)⟩
 case round =>
  obtain ⟨k,hk,rfl,HI,HBr⟩:=hrel
  by_cases hlt:k<f.length
  ·have hki:(k:Int)<(f.length:Int):=by omega
   have hge:(0:Int)≤(k:Int):=by omega
   have e2:=row_bool (H2.out.below H2.out.lt HBr.out) hlt
   cases hfk:f.getD k false
   ·rw [hfk] at e2
    have HD:=hid (done_no hfk)
    clear hfk
    go_wp2_with fail
    go_roundw
    case rel=>exact ⟨k+1,by omega,by go_num,hid (by rw [HD.out]; exact HI.out),HBr⟩
    case measure=>simp [Go.RowKit.intOf]; omega
   ·rw [hfk] at e2
    have HD:=hid (done_yes hfk)
    clear hfk
    have B2:=(Below.refl wr.heap.size wr).alloc (Nat.le_refl _) (.cells #[.int .i64 (k:Int)] 3)
    have R2:=(alloc_rowV wr 3 [.int .i64 (k:Int)]).cellAt (i:=0) rfl
    have hw2:B≤(wr.alloc (.cells #[.int .i64 (k:Int)] 3)).heap.size:=by rw [HBE.out]; exact Nat.le_trans HBr.out.size B2.size
    obtain ⟨v2,w3,hrun,hown,hbel⟩:=push_int (HI.out.below B2) R2 51 (by have:=done_le f k; simp [toI]; omega) hw2
    have HI3:=hid (show OwnI w3 B v2 (toI (doneK f (k+1))) by rw [HD.out]; simpa [toI] using hown)
    have HB3:=hid ((HBr.out.trans (B2.mono HBr.out.size)).trans (hbel.mono (by rw [HBE.out]; exact Nat.le_refl _)))
    clear B2 R2 hw2 hown hbel
    go_wp2_with (at_builtin; refine wpList_append_run rfl (.tmp 15) (.tmp 17) 51 rfl _ _ rfl rfl _ w3 hrun ?_)
    clear hrun
    go_roundw
    case rel=>exact ⟨k+1,by omega,by go_num,HI3,HB3⟩
    case measure=>simp [Go.RowKit.intOf]; omega
  ·have hki : ¬(k:Int)<(f.length:Int):=by omega
   obtain rfl:k=f.length:=by omega
   go_wp2_with fail
   go_ret
   exact ⟨_,rfl,HI.out.list,HB.out.trans (HBr.out.mono HB.out.size)⟩
end Go.Proofs.YtogchamogbendaaGreat.Pl
namespace Go.Proofs.YtogchamogbendaaGreat.Pl
open Lib (hid)
open Go.RowKit Oct Mv Tl Pk Go.Maps
theorem app_ints {w:World} {base b o c:Nat} {l:List Nat} (hs:HasV w b o (ints l)) (h0:0<l.length) (hl:l.length≤4096) (hb:base≤w.heap.size) (ty:TypeId) :
  ∃g cp w',(Builtin.append_ #[51,51] ty #[.slice none 0 0,.slice (some ⟨b,o,none⟩) l.length c]).run Tryz.prog w = .ok (.slice (some ⟨g,0,none⟩) l.length cp) w'∧(∃sp,RowV w' g 3 (ints l++sp))∧(base≤g∧l.length≤cp∧cp≤maxLen)∧Below w.heap.size w w':=by
 obtain ⟨i0,hi,hz0,hz1,hz2⟩:=info_parts int_info
 obtain ⟨v',w',hr,ho,hg,hnil⟩:=run_append_own (P:=Tryz.prog) w base 51 ty 3 i0 (.int .i64 0) 1 8 Tryz.underlying51 hi hz0 hz1 hz2 rfl (by omega) _ _ _ (own_nil w base) ⟨b,o,none⟩ l.length c (ints l) (by rw [length_ints,Nat.mul_one])
  (fun j u hj=>by
   rw [add_plain]
   exact hs.cellAt hj)
  (fun u hu=>by simp [ints] at hu; obtain ⟨m,_,rfl⟩:=hu; rfl) (by unfold maxLen; simp; omega) (by simp; omega) hb
 rw [List.map_nil,List.nil_append,List.length_nil,Nat.zero_add] at ho
 have hB:Below w.heap.size w w':=⟨hg.os,hg.tape,hg.output,hg.size,fun k hk=>hg.block k hk (fun e=>by cases e)⟩
 rcases ho.2 with ⟨rfl,e⟩ | ⟨g,cap,cur,rfl,hbg,hgg,hn,hm,hs,ht⟩
 ·omega
 ·refine ⟨g,cap,w',hr,⟨cur.toList.drop (l.length*1),?_⟩,⟨hbg,hn,hm⟩,hB⟩
  have e:ints l++cur.toList.drop (l.length*1)=cur.toList:=by rw [← ht,List.take_append_drop]
  unfold RowV
  rw [e,hgg]
structure PgAt (w:World) (g1 g2 c1 c2 B:Nat) (l:List Nat) (f:List Bool):Prop where
 at' : ∃sp,RowV w g1 3 (ints l++sp)
 pl : ∃sp,RowV w g2 4 (bools f++sp)
 len:f.length=l.length
 lo1:B≤g1
 lo2:B≤g2
 cp:l.length≤c1∧c1≤maxLen
section
variable {w w':World} {g1 g2 c1 c2 B:Nat} {l:List Nat} {f:List Bool}
theorem PgAt.lt1 (h:PgAt w g1 g2 c1 c2 B l f):g1<w.heap.size:=by obtain ⟨_,k⟩:=h.at'; exact k.lt
theorem PgAt.lt2 (h:PgAt w g1 g2 c1 c2 B l f):g2<w.heap.size:=by obtain ⟨_,k⟩:=h.pl; exact k.lt
theorem PgAt.blocks (h:PgAt w g1 g2 c1 c2 B l f) (k1:w'.heap[g1]?=w.heap[g1]?) (k2:w'.heap[g2]?=w.heap[g2]?):PgAt w' g1 g2 c1 c2 B l f :=
 ⟨(by obtain ⟨sp,k⟩:=h.at'; exact ⟨sp,k.block k1⟩),(by obtain ⟨sp,k⟩:=h.pl; exact ⟨sp,k.block k2⟩),h.len,h.lo1,h.lo2,h.cp⟩
theorem PgAt.kept (h:PgAt w g1 g2 c1 c2 B l f) (k:Below w.heap.size w w'):PgAt w' g1 g2 c1 c2 B l f:=h.blocks (k.block _ h.lt1) (k.block _ h.lt2)
theorem PgAt.ne (h:PgAt w g1 g2 c1 c2 B l f):g1≠g2:=by
 obtain ⟨_,k1⟩:=h.at'
 obtain ⟨_,k2⟩:=h.pl
 exact row_ne k1 k2 (by decide)
end
theorem pages_zero (w:World):(zeroValue 293).run Tryz.prog w = .ok (.agg #[.slice none 0 0,.slice none 0 0]) w:=by kernel_rfl
set_option maxHeartbeats 2000000 in
theorem build_any {w:World} {bb o c:Nat} {l:List Nat} (hs:HasV w bb o (ints l)) (hpos:0<l.length) (hl:l.length≤4096) :
  Calls Tryz.prog 197 #[.slice (some ⟨bb,o,none⟩) l.length c] w fun e w' => ∃g1 g2 c1,e = .returned (pgv g1 g2 l.length c1 l.length)∧PgAt w' g1 g2 c1 l.length w.heap.size l (List.replicate l.length false)∧Below w.heap.size w w':=by
 have HS:=hid hs
 have hbl:=hs.lt (by rw [length_ints]; exact hpos)
 have B1:=(Below.refl w.heap.size w).alloc (Nat.le_refl _) (.cells #[.slice none 0 0,.slice none 0 0] 293)
 have HR:=hid (alloc_rowV w 293 [.slice none 0 0,.slice none 0 0])
 have HB:=hid B1
 clear hs B1
 go_enter Tryz.func197,Tryz.ntmps197
 go_upto_region 1 with (fail)
 generalize w.alloc (.cells #[.slice none 0 0,.slice none 0 0] 293)=w1 at *
 obtain ⟨r,hr⟩ : ∃r,r=w.heap.size:=⟨_,rfl⟩
 rw [← hr] at HR ⊢
 have HRR:=hid hr
 clear hr
 refine Inv2.wp_region_inv (fun b a wy => ∃z3 z4 z5 z6 z7 z8,a=⟨#[.slice (some ⟨bb,o,none⟩) l.length c,undef,.pointer (some ⟨r,0,none⟩),z3,z4,z5,z6,z7,z8],[]⟩∧Hid ((b 0=true→z3 = .slice (some ⟨bb,o,none⟩) l.length c)∧(b 2=true→z5 = .slice (some ⟨bb,o,none⟩) l.length c)∧(b 3=true→z6 = .int .i64 (l.length:Int)))∧Hid (Below w.heap.size w wy)∧Hid (∃g1 c1 g2,(b 1=true→z4 = .slice (some ⟨g1,0,none⟩) l.length c1∧(w.heap.size≤g1∧l.length≤c1∧c1≤maxLen) ∧ ∃sp,RowV wy g1 3 (ints l++sp))∧(b 4=true→z7 = .slice (some ⟨g2,0,none⟩) l.length l.length∧w.heap.size≤g2∧RowV wy g2 4 (bools (List.replicate l.length false)))∧(b 5=true→z8 = .agg #[.slice (some ⟨g1,0,none⟩) l.length c1,.slice (some ⟨g2,0,none⟩) l.length l.length]∧b 1=true∧b 4=true)∧(b 6=true→b 5=true∧RowV wy r 293 [.slice (some ⟨g1,0,none⟩) l.length c1,.slice (some ⟨g2,0,none⟩) l.length l.length])∧(b 6=false→RowV wy r 293 [.slice none 0 0,.slice none 0 0]))) (by kernel_rfl) (by kernel_rfl) ?startE1 ?stepsE1 ?doneE1
 case startE1 =>
  intro b hb
  refine ⟨undef,undef,undef,undef,undef,undef,rfl,hid ⟨?_,?_,?_⟩,hid (HB.out.trans <| (show Still w1 w1.drew from ⟨rfl,rfl,rfl,rfl⟩).below _),hid (⟨0,0,0,(fun e=>by rw [hb _ (by decide)] at e; cases e),(fun e=>by rw [hb _ (by decide)] at e; cases e),(fun e=>by rw [hb _ (by decide)] at e; cases e),(fun e=>by rw [hb _ (by decide)] at e; cases e),fun _=>HR.out⟩)⟩
  all_goals (intro e; first | rfl | (rw [hb _ (by decide)] at e; cases e))
 case stepsE1 =>
  refine ⟨?_,?_,?_,?_,?_,?_,?_,trivial⟩
  ·rintro b a wy hb hd ⟨z3,z4,z5,z6,z7,z8,rfl,HV,HW,HX⟩ K hK
   obtain ⟨h0,h2,h3⟩:=HV.out
   clear hd
   go_simp
   exact hK _ _ ⟨_,_,_,_,_,_,rfl,hid ⟨fun _=>rfl,h2,h3⟩,HW,HX⟩
  ·rintro b a wy hb hd ⟨z3,z4,z5,z6,z7,z8,rfl,HV,HW,HX⟩ K hK
   obtain ⟨h0,h2,h3⟩:=HV.out
   simp [Region.binds] at hd
   obtain rfl:=h0 (by simp [hd])
   clear hd
   obtain ⟨g1,c1,g2,x1,x4,x5,x6,x7⟩:=HX.out
   have hs2:=HS.out.below hbl HW.out
   obtain ⟨g,cp,w5,hrun,hsp,hge,hbel⟩:=app_ints (c:=c) hs2 hpos hl (base:=w.heap.size) HW.out.size 51
   refine if_wanted (by rfl) (wp_append_run (.const (.slice none 0 0)) (.tmp 3) 51 rfl _ _ rfl rfl _ w5 hrun ?_)
   exact hK _ _ ⟨_,_,_,_,_,_,rfl,hid ⟨h0,h2,h3⟩,hid (HW.out.trans (hbel.mono HW.out.size)),hid ⟨g,cp,g2,fun _=>⟨rfl,hge,hsp⟩,fun e=>⟨(x4 e).1,(x4 e).2.1,(x4 e).2.2.below (x4 e).2.2.lt hbel⟩,fun e=>absurd (x5 e).2.1 (by rw [hb]; decide),fun e=>absurd (x5 (x6 e).1).2.1 (by rw [hb]; decide),fun e=>(x7 e).below (x7 e).lt hbel⟩⟩
  ·rintro b a wy hb hd ⟨z3,z4,z5,z6,z7,z8,rfl,HV,HW,HX⟩ K hK
   obtain ⟨h0,h2,h3⟩:=HV.out
   clear hd
   go_simp
   exact hK _ _ ⟨_,_,_,_,_,_,rfl,hid ⟨h0,fun _=>rfl,h3⟩,HW,HX⟩
  ·rintro b a wy hb hd ⟨z3,z4,z5,z6,z7,z8,rfl,HV,HW,HX⟩ K hK
   obtain ⟨h0,h2,h3⟩:=HV.out
   simp [Region.binds] at hd
   obtain rfl:=h2 (by simp [hd])
   clear hd
   go_simp
   exact hK _ _ ⟨_,_,_,_,_,_,rfl,hid ⟨h0,h2,fun _=>rfl⟩,HW,HX⟩
  ·rintro b a wy hb hd ⟨z3,z4,z5,z6,z7,z8,rfl,HV,HW,HX⟩ K hK
   obtain ⟨h0,h2,h3⟩:=HV.out
   simp [Region.binds] at hd
   obtain rfl:=h3 (by simp [hd])
   clear hd
   obtain ⟨g1,c1,g2,x1,x4,x5,x6,x7⟩:=HX.out
   have hmk:=run_make_flags wy l.length hl
   go_simp
   have B2:=(Below.refl wy.heap.size wy).alloc (Nat.le_refl _) (.cells (bools (List.replicate l.length false)).toArray 4)
   have R2:=alloc_rowV wy 4 (bools (List.replicate l.length false))
   exact hK _ _ ⟨_,_,_,_,_,_,rfl,hid ⟨h0,h2,h3⟩,hid (HW.out.trans (B2.mono HW.out.size)),hid ⟨g1,c1,wy.heap.size,fun e=>⟨(x1 e).1,(x1 e).2.1,(by obtain ⟨sp,k⟩:=(x1 e).2.2; exact ⟨sp,k.below k.lt B2⟩)⟩,fun _=>⟨rfl,HW.out.size,R2⟩,fun e=>absurd (x5 e).2.2 (by rw [hb]; decide),fun e=>absurd (x5 (x6 e).1).2.2 (by rw [hb]; decide),fun e=>(x7 e).below (x7 e).lt B2⟩⟩
  ·rintro b a wy hb hd ⟨z3,z4,z5,z6,z7,z8,rfl,HV,HW,HX⟩ K hK
   obtain ⟨h0,h2,h3⟩:=HV.out
   simp [Region.binds] at hd
   have dd1:b 1=true:=by simp [hd]
   have dd4:b 4=true:=by simp [hd]
   clear hd
   obtain ⟨g1,c1,g2,x1,x4,x5,x6,x7⟩:=HX.out
   obtain ⟨rfl,hg1,hsp⟩:=x1 dd1
   obtain ⟨rfl,hg2,hr2⟩:=x4 dd4
   go_simp
   exact hK _ _ ⟨_,_,_,_,_,_,rfl,hid ⟨h0,h2,h3⟩,HW,hid ⟨g1,c1,g2,fun _=>⟨rfl,hg1,hsp⟩,fun _=>⟨rfl,hg2,hr2⟩,fun _=>⟨rfl,dd1,dd4⟩,fun e=>absurd (x6 e).1 (by rw [hb]; decide),x7⟩⟩
  ·rintro b a wy hb hd ⟨z3,z4,z5,z6,z7,z8,rfl,HV,HW,HX⟩ K hK
   obtain ⟨h0,h2,h3⟩:=HV.out
   simp [Region.binds] at hd
   have dd5:b 5=true:=by simp [hd]
   clear hd
   obtain ⟨g1,c1,g2,x1,x4,x5,x6,x7⟩:=HX.out
   obtain ⟨rfl,d1,d4⟩:=x5 dd5
   obtain ⟨e1,hg1,sp,hsp⟩:=x1 d1
   obtain ⟨e4,hg2,hr2⟩:=x4 d4
   have hr:=x7 hb
   have q0:=hr.cellAt (i:=0) rfl
   have q1:=hr.cellAt (i:=1) rfl
   have f0:=hr.free 0
   have f1:=hr.free 1
   have n1:g1≠r:=row_ne hsp hr (by decide)
   have n2:g2≠r:=row_ne hr2 hr (by decide)
   have hrl:w.heap.size≤r:=by rw [HRR.out]; exact Nat.le_refl _
   have HA1:=hid (And.intro e1 (And.intro hg1 (show ∃sp,RowV _ g1 3 (ints l++sp) from ⟨sp,(hsp.other (q:=r) (i:=0) (v := .slice (some ⟨g1,0,none⟩) l.length c1) n1).other (q:=r) (i:=1) (v := .slice (some ⟨g2,0,none⟩) l.length l.length) n1⟩)))
   have HA2:=hid (And.intro e4 (And.intro hg2 ((hr2.other (q:=r) (i:=0) (v := .slice (some ⟨g1,0,none⟩) l.length c1) n2).other (q:=r) (i:=1) (v := .slice (some ⟨g2,0,none⟩) l.length l.length) n2)))
   have HA3:=hid ((hr.set 0 (.slice (some ⟨g1,0,none⟩) l.length c1)).set 1 (.slice (some ⟨g2,0,none⟩) l.length l.length))
   have HD:=hid (And.intro d1 (And.intro d4 dd5))
   have HU:=hid (((ButL.set wy r 0 (.slice (some ⟨g1,0,none⟩) l.length c1)).trans (ButL.set _ r 1 (.slice (some ⟨g2,0,none⟩) l.length l.length))))
   clear e1 e4 hsp hr2 hr n1 n2 x1 x4 x5 x6 x7 HX
   go_simp
   have HW6:=hid (HW.out.trans (HU.out.below (B:=w.heap.size) (by simp; exact hrl) HW.out.size))
   exact hK _ _ ⟨_,_,_,_,_,_,rfl,hid ⟨h0,h2,h3⟩,HW6,hid ⟨g1,c1,g2,fun _=>HA1.out,fun _=>HA2.out,fun _=>⟨rfl,HD.out.1,HD.out.2.1⟩,fun _=>⟨HD.out.2.2,HA3.out⟩,fun e=>(by cases e)⟩⟩
 case doneE1 =>
  rintro b a wy hb ⟨z3,z4,z5,z6,z7,z8,rfl,HV,HW,HX⟩
  obtain ⟨h0,h2,h3⟩:=HV.out
  obtain rfl:=h0 (hb 0)
  obtain rfl:=h2 (hb 2)
  obtain rfl:=h3 (hb 3)
  clear HV h0 h2 h3
  obtain ⟨g1,c1,g2,x1,x4,x5,x6,x7⟩:=HX.out
  obtain ⟨rfl,hg1,sp,hsp⟩:=x1 (hb 1)
  obtain ⟨rfl,hg2,hr2⟩:=x4 (hb 4)
  obtain ⟨rfl,_,_⟩:=x5 (hb 5)
  have hr:=(x6 (hb 6)).2
  have HP:=hid (show PgAt wy g1 g2 c1 l.length w.heap.size l (List.replicate l.length false) from ⟨⟨sp,hsp⟩,⟨[],by rw [List.append_nil]; exact hr2⟩,by simp,hg1.1,hg2,hg1.2⟩)
  have q0:=hr.cellAt (i:=0) rfl
  have q1:=hr.cellAt (i:=1) rfl
  clear x1 x4 x5 x6 x7 hg1 hg2 hsp hr2 hr hb
  go_wp2_with fail
  refine bodyPost_ret (v:=pgv g1 g2 l.length c1 l.length) ?_ rfl ?_
  ·rw [results_cell_one rfl]
   unfold pgv
   go_simp
  ·exact ⟨g1,g2,c1,rfl,HP.out,HW.out⟩
end Go.Proofs.YtogchamogbendaaGreat.Pl
namespace Go.Proofs.YtogchamogbendaaGreat.Pl
open Go.RowKit Oct Mv Tl Pk Go.Maps
def down1 (q:Q) (old:Nat):Q:=if old=0 then q else ⟨(q.s.down (old:Int)).2,q.first,q.next,q.asked⟩
def Moved (q:Q) (old:Nat) (q':Q) (b:Nat):Prop:=(down1 q old).Found b∧q'=(down1 q old).took b
def May1 (q:Q) (old:Nat):Prop:=old≠0→old<q.s.n∧q.s.cnt old≠0
theorem down_is {s:St} {old:Nat} (h1:old<s.n) (h2:s.cnt old≠0):s.down (old:Int)=(0,s.put old (s.cnt old-1)):=by
 unfold St.down
 rw [if_pos ⟨by omega,by omega⟩,Int.toNat_natCast,if_neg h2]
theorem down1_pos {q:Q} {old:Nat} (h0:old≠0) (h:May1 q old):down1 q old=⟨q.s.put old (q.s.cnt old-1),q.first,q.next,q.asked⟩:=by
 unfold down1
 rw [if_neg h0,down_is (h h0).1 (h h0).2]
theorem down1_zero (q:Q):down1 q 0=q:=by unfold down1; rw [if_pos rfl]
section
variable {q q':Q} {old b:Nat}
theorem down1_n (h:May1 q old):(down1 q old).s.n=q.s.n:=by
 by_cases h0:old=0
 ·subst h0; rw [down1_zero]
 ·rw [down1_pos h0 h]; exact n_put _ _ _
theorem down1_cnt (h:May1 q old) (j:Nat):(down1 q old).s.cnt j=if j=old∧old≠0 then q.s.cnt j-1 else q.s.cnt j:=by
 by_cases h0:old=0
 ·subst h0; rw [down1_zero,if_neg (by simp)]
 ·rw [down1_pos h0 h]
  show (q.s.put old (q.s.cnt old-1)).cnt j=_
  rw [cnt_put (h h0).1]
  by_cases e:j=old
  ·subst e; rw [if_pos rfl,if_pos ⟨rfl,h0⟩]
  ·rw [if_neg e,if_neg (fun k=>e k.1)]
theorem down1_was (q:Q) (old:Nat) (h:May1 q old) (j:Nat):(down1 q old).s.was j=q.s.was j:=by
 by_cases h0:old=0
 ·subst h0; rw [down1_zero]
 ·rw [down1_pos h0 h]; rfl
theorem down1_kept (q:Q) (old:Nat) (h:May1 q old):(down1 q old).s.kept=q.s.kept:=by
 by_cases h0:old=0
 ·subst h0; rw [down1_zero]
 ·rw [down1_pos h0 h]; rfl
theorem down1_first (q:Q) (old:Nat):(down1 q old).first=q.first:=by unfold down1; split <;> rfl
theorem down1_asked (q:Q) (old:Nat):(down1 q old).asked=q.asked:=by unfold down1; split <;> rfl
theorem down1_ok (hok:q.Ok) (h:May1 q old):(down1 q old).Ok:=by
 by_cases h0:old=0
 ·subst h0; rw [down1_zero]; exact hok
 ·rw [down1_pos h0 h]
  exact ⟨hok.s.put _ _,by show q.first≤(q.s.put _ _).n; rw [n_put]; exact hok.first,hok.le,by show q.next<(q.s.put _ _).n∨_; rw [n_put]; exact hok.next,by show q.asked≤(q.s.put _ _).n; rw [n_put]; exact hok.asked⟩
theorem down1_free (h:May1 q old) (j:Nat) (hj:q.s.free j=true):(down1 q old).s.free j=true:=by
 unfold St.free at *
 rw [down1_cnt h,down1_was q old h]
 by_cases e:j=old∧old≠0
 ·obtain ⟨rfl,h0⟩:=e
  have:=(h h0).2
  have h1:=(Bool.and_eq_true _ _▸hj).1
  exact absurd (by simpa using h1) this
 ·rw [if_neg e]; exact hj
theorem count_mono {s t:St} (f m:Nat) (h : ∀j,s.free j=true→t.free j=true):St.count s f m≤St.count t f m:=by
 unfold St.count
 exact List.countP_mono_left fun a _ ha=>h a ha
theorem down1_room (h:May1 q old):q.room≤(down1 q old).room:=by
 unfold Q.room
 rw [down1_n h,down1_first]
 exact count_mono _ _ (down1_free h)
theorem found_some (hok:q.Ok) (h:0<q.room) : ∃b,q.Found b:=by
 cases e:q.seek with
 | some b=>exact ⟨b,seek_found hok e⟩
 | none =>
  have:=(room_zero hok).2 (seek_none hok e)
  omega
theorem Moved.one {q1 q2:Q} {b1 b2:Nat} (h:Moved q old q1 b1) (k:Moved q old q2 b2):q1=q2∧b1=b2:=by
 have:=found_one h.1 k.1
 subst this
 exact ⟨h.2.trans k.2.symm,rfl⟩
theorem Moved.n (h:Moved q old q' b) (hm:May1 q old):q'.s.n=q.s.n:=by rw [h.2,n_took,down1_n hm]
theorem Moved.lt (h:Moved q old q' b) (hm:May1 q old):b<q.s.n:=by rw [← down1_n hm]; exact h.1.1
theorem Moved.ok (h:Moved q old q' b) (hm:May1 q old) (hok:q.Ok):q'.Ok:=by rw [h.2]; exact (down1_ok hok hm).took h.1
theorem Moved.first (h:Moved q old q' b):q'.first=q.first:=by
 rw [h.2]
 exact down1_first q old
theorem Moved.asked (h:Moved q old q' b):q'.asked=q.asked:=by
 rw [h.2]
 exact down1_asked q old
theorem Moved.ge (h:Moved q old q' b) (hm:May1 q old) (hok:q.Ok):q.first≤b:=by
 have:=h.1.lo (down1_ok hok hm)
 rwa [down1_first] at this
theorem Moved.kept (h:Moved q old q' b) (hm:May1 q old):q'.s.kept=q.s.kept:=by
 rw [h.2]
 exact down1_kept q old hm
theorem Moved.was (h:Moved q old q' b) (hm:May1 q old) (j:Nat):q'.s.was j=q.s.was j:=by
 unfold St.was
 rw [h.kept hm]
theorem Moved.cnt (h:Moved q old q' b) (hm:May1 q old) (j:Nat):q'.s.cnt j=if j=b then 1 else (down1 q old).s.cnt j:=by
 by_cases e:j=b
 ·subst e
  rw [if_pos rfl,h.2]
  exact cnt_took h.1
 ·rw [if_neg e,h.2]
  show ((down1 q old).s.put b _).cnt j=_
  rw [cnt_put h.1.1,if_neg e]
theorem Moved.room (h:Moved q old q' b) (hm:May1 q old) (hok:q.Ok):q.room≤q'.room+1:=by
 have h1:=down1_room hm
 have h2:=room_took (down1_ok hok hm) h.1
 rw [h.2]
 omega
theorem Moved.free (h:Moved q old q' b):(down1 q old).s.cnt b=0∧(down1 q old).s.was b=0:=by
 have:=h.1.2.1
 unfold St.free at this
 have:=Bool.and_eq_true _ _▸this
 exact ⟨by simpa using this.1,by simpa using this.2⟩
end
end Go.Proofs.YtogchamogbendaaGreat.Pl
namespace Go.Proofs.YtogchamogbendaaGreat.Pl
open Go.RowKit Oct Mv Tl Pk Go.Maps
def left (F:List Bool):Nat:=F.countP (fun x => !x)
structure Loose (q:Q) (L:List Nat) (F:List Bool):Prop where
 len:F.length=L.length
 may : ∀i,i<L.length→F.getD i false=false→May1 q (L.getD i 0)
 ne : ∀i j,i<L.length→j<L.length→i≠j→F.getD i false=false→F.getD j false=false→L.getD i 0≠0→L.getD i 0≠L.getD j 0
 room:left F≤q.room
theorem getD_set {α:Type} (l:List α) (i j:Nat) (x d:α):(l.set i x).getD j d=if j=i∧i<l.length then x else l.getD j d:=by
 simp only [List.getD_eq_getElem?_getD,List.getElem?_set]
 by_cases e:i=j
 ·subst e
  by_cases h:i<l.length
  ·simp [h]
  ·simp [h]
 ·rw [if_neg e,if_neg (fun k=>e k.1.symm)]
theorem left_set : ∀(F:List Bool) (i:Nat),i<F.length→F.getD i false=false→left F=left (F.set i true)+1
 | [],i,h,_=>absurd h (by simp)
 | x :: F,0,_,h1=>by
  have:x=false:=by simpa using h1
  subst this
  simp [left]
 | x :: F,i+1,h,h1=>by
  have:=left_set F i (by simpa using h) (by simpa using h1)
  unfold left at *
  rw [List.set_cons_succ,List.countP_cons,List.countP_cons,this]
  omega
theorem left_pos {F:List Bool} {i:Nat} (h:i<F.length) (h1:F.getD i false=false):0<left F:=by
 have:=left_set F i h h1
 omega
theorem Loose.move {q q':Q} {L:List Nat} {F:List Bool} {i b:Nat} (h:Loose q L F) (hok:q.Ok) (hi:i<L.length) (hf:F.getD i false=false) (hm:Moved q (L.getD i 0) q' b):Loose q' (L.set i b) (F.set i true):=by
 have may:=h.may i hi hf
 refine ⟨by simp [h.len],fun j hj hF hz => ?_,fun j k hj hk hne hFj hFk => ?_,?_⟩
 ·rw [List.length_set] at hj
  rw [getD_set] at hF hz ⊢
  by_cases e:j=i
  ·subst e
   rw [if_pos ⟨rfl,by rw [h.len]; exact hi⟩] at hF
   cases hF
  ·rw [if_neg (fun k=>e k.1)] at hF hz ⊢
   obtain ⟨h1,h2⟩:=h.may j hj hF hz
   refine ⟨by rw [hm.n may]; exact h1,?_⟩
   rw [hm.cnt may]
   by_cases e2:L.getD j 0=b
   ·rw [if_pos e2]; decide
   ·rw [if_neg e2,down1_cnt may]
    rw [if_neg (fun k=>h.ne j i hj hi e hF hf hz k.1)]
    exact h2
 ·rw [List.length_set] at hj hk
  rw [getD_set] at hFj hFk
  have ej:j≠i:=fun e=>by
   rw [if_pos ⟨e,by rw [h.len]; exact hi⟩] at hFj
   cases hFj
  have ek:k≠i:=fun e=>by
   rw [if_pos ⟨e,by rw [h.len]; exact hi⟩] at hFk
   cases hFk
  rw [if_neg (fun k=>ej k.1)] at hFj
  rw [if_neg (fun k=>ek k.1)] at hFk
  rw [getD_set,getD_set,if_neg (fun k=>ej k.1),if_neg (fun k=>ek k.1)]
  exact h.ne j k hj hk hne hFj hFk
 ·have h1:=left_set F i (by rw [h.len]; exact hi) hf
  have h2:=hm.room may hok
  have h3:=h.room
  omega
structure Wk where
 q:Q
 l1:List Nat
 f1:List Bool
 l2:List Nat
 f2:List Bool
def Wk.S1 (x:Wk):Int→Prop:=onP x.q.s.changed
def Wk.S2 (x:Wk):Int→Prop:=onP (doneL x.f1)
def Wk.mv1 (x:Wk) (i b:Nat) (q':Q):Wk:=⟨q',x.l1.set i b,x.f1.set i true,x.l2,x.f2⟩
def Wk.mv2 (x:Wk) (i b:Nat) (q':Q):Wk:=⟨q',x.l1,x.f1,x.l2.set i b,x.f2.set i true⟩
structure Wk.Good (x:Wk):Prop where
 ok:x.q.Ok
 len1:x.l1.length=pg x.q.s.n
 len2:x.l2.length=pg (pg x.q.s.n)
 fl1:x.f1.length=x.l1.length
 fl2:x.f2.length=x.l2.length
 loose:Loose x.q (x.l1++x.l2) (x.f1++x.f2)
def noP (l:List Nat) (f:List Bool) (S:Int→Prop):Prop := ∀j,¬askP l f S j
inductive Wk.Step (x:Wk):Wk→Prop where
 | one (i b:Nat) (q':Q):FirstP x.l1 x.f1 x.S1 i true→Moved x.q (x.l1.getD i 0) q' b→Wk.Step x (x.mv1 i b q')
 | two (i b:Nat) (q':Q):noP x.l1 x.f1 x.S1→FirstP x.l2 x.f2 x.S2 i true→Moved x.q (x.l2.getD i 0) q' b→Wk.Step x (x.mv2 i b q')
structure Wk.End (x:Wk):Prop where
 one:noP x.l1 x.f1 x.S1
 two:noP x.l2 x.f2 x.S2
inductive Wk.Runs:Wk→Wk→Prop where
 | done {x:Wk}:x.End→Wk.Runs x x
 | step {x y z:Wk}:x.Step y→Wk.Runs y z→Wk.Runs x z
theorem FirstP.one {l:List Nat} {f:List Bool} {S:Int→Prop} {i j:Nat} (h:FirstP l f S i true) (k:FirstP l f S j true):i=j:=by
 have h':askP l f S i ∧ ∀j,j<i → ¬askP l f S j:=h
 have k':askP l f S j ∧ ∀i,i<j → ¬askP l f S i:=k
 rcases Nat.lt_trichotomy i j with e | e | e
 ·exact absurd h'.1 (k'.2 i e)
 ·exact e
 ·exact absurd k'.1 (h'.2 j e)
theorem FirstP.ask {l:List Nat} {f:List Bool} {S:Int→Prop} {i:Nat} (h:FirstP l f S i true):askP l f S i:=(show askP l f S i ∧ ∀j,j<i → ¬askP l f S j from h).1
theorem FirstP.none {l:List Nat} {f:List Bool} {S:Int→Prop} {i:Nat} (h:FirstP l f S i false):noP l f S:=(show i=0 ∧ ∀j,¬askP l f S j from h).2
theorem Wk.Step.uniq {x y z:Wk} (h:x.Step y) (k:x.Step z):y=z:=by
 cases h with
 | one i b q' h1 h2 =>
  cases k with
  | one j d q2 k1 k2 =>
   obtain rfl:=h1.one k1
   obtain ⟨rfl,rfl⟩:=h2.one k2
   rfl
  | two j d q2 k0 k1 k2=>exact absurd h1.ask (k0 i)
 | two i b q' h0 h1 h2 =>
  cases k with
  | one j d q2 k1 k2=>exact absurd k1.ask (h0 j)
  | two j d q2 k0 k1 k2 =>
   obtain rfl:=h1.one k1
   obtain ⟨rfl,rfl⟩:=h2.one k2
   rfl
theorem Wk.End.not {x y:Wk} (h:x.End) (k:x.Step y):False:=by
 cases k with
 | one i b q' k1 k2=>exact h.one i k1.ask
 | two i b q' k0 k1 k2=>exact h.two i k1.ask
theorem Wk.Runs.uniq {x y z:Wk} (h:x.Runs y) (k:x.Runs z):y=z:=by
 induction h with
 | done h =>
  cases k with
  | done _=>rfl
  | step s _=>exact (h.not s).elim
 | step s r ih =>
  cases k with
  | done e=>exact (e.not s).elim
  | step s2 r2=>obtain rfl:=s.uniq s2; exact ih r2
section
variable {x y z:Wk}
theorem getD_app1 {α:Type} (l m:List α) (d:α) {i:Nat} (h:i<l.length):(l++m).getD i d=l.getD i d:=by
 simp only [List.getD_eq_getElem?_getD]
 rw [List.getElem?_append_left h]
theorem getD_app2 {α:Type} (l m:List α) (d:α) (i:Nat):(l++m).getD (l.length+i) d=m.getD i d:=by
 simp only [List.getD_eq_getElem?_getD]
 rw [List.getElem?_append_right (by omega)]
 congr 2
 omega
theorem Wk.Good.may1 (h:x.Good) {i:Nat} (hi:i<x.l1.length) (hf:x.f1.getD i false=false):May1 x.q (x.l1.getD i 0):=by
 have:=h.loose.may i (by rw [List.length_append]; omega) (by rw [getD_app1 _ _ _ (by rw [h.fl1]; exact hi)]; exact hf)
 rwa [getD_app1 _ _ _ hi] at this
theorem Wk.Good.may2 (h:x.Good) {i:Nat} (hi:i<x.l2.length) (hf:x.f2.getD i false=false):May1 x.q (x.l2.getD i 0):=by
 have:=h.loose.may (x.l1.length+i) (by rw [List.length_append]; omega) (by rw [← h.fl1,getD_app2]; exact hf)
 rwa [getD_app2] at this
theorem Wk.Good.room1 (h:x.Good) {i:Nat} (hi:i<x.l1.length) (hf:x.f1.getD i false=false):0<x.q.room :=
 Nat.lt_of_lt_of_le (left_pos (i:=i) (by rw [List.length_append,h.fl1]; omega) (by rw [getD_app1 _ _ _ (by rw [h.fl1]; exact hi)]; exact hf)) h.loose.room
theorem Wk.Good.room2 (h:x.Good) {i:Nat} (hi:i<x.l2.length) (hf:x.f2.getD i false=false):0<x.q.room :=
 Nat.lt_of_lt_of_le (left_pos (i:=x.f1.length+i) (by rw [List.length_append,h.fl2]; omega) (by rw [getD_app2]; exact hf)) h.loose.room
theorem Wk.Good.step (h:x.Good) (k:x.Step y):y.Good:=by
 cases k with
 | one i b q' k1 k2 =>
  obtain ⟨hi,hf,_⟩:=k1.ask
  have hm:=h.may1 hi hf
  refine ⟨k2.ok hm h.ok,?_,?_,?_,h.fl2,?_⟩
  ·show (x.l1.set i b).length=pg q'.s.n
   rw [List.length_set,k2.n hm]; exact h.len1
  ·show x.l2.length=pg (pg q'.s.n)
   rw [k2.n hm]; exact h.len2
  ·show (x.f1.set i true).length=(x.l1.set i b).length
   rw [List.length_set,List.length_set]; exact h.fl1
  ·show Loose q' (x.l1.set i b++x.l2) (x.f1.set i true++x.f2)
   rw [← List.set_append_left _ _ hi,← List.set_append_left _ _ (by rw [h.fl1]; exact hi)]
   refine h.loose.move h.ok (by rw [List.length_append]; omega) (by rw [getD_app1 _ _ _ (by rw [h.fl1]; exact hi)]; exact hf) ?_
   rw [getD_app1 _ _ _ hi]; exact k2
 | two i b q' k0 k1 k2 =>
  obtain ⟨hi,hf,_⟩:=k1.ask
  have hm:=h.may2 hi hf
  refine ⟨k2.ok hm h.ok,?_,?_,h.fl1,?_,?_⟩
  ·show x.l1.length=pg q'.s.n
   rw [k2.n hm]; exact h.len1
  ·show (x.l2.set i b).length=pg (pg q'.s.n)
   rw [List.length_set,k2.n hm]; exact h.len2
  ·show (x.f2.set i true).length=(x.l2.set i b).length
   rw [List.length_set,List.length_set]; exact h.fl2
  ·show Loose q' (x.l1++x.l2.set i b) (x.f1++x.f2.set i true)
   have e1:x.l1++x.l2.set i b=(x.l1++x.l2).set (x.l1.length+i) b:=by
    rw [List.set_append_right _ _ (by omega)]; congr 2; omega
   have e2:x.f1++x.f2.set i true=(x.f1++x.f2).set (x.l1.length+i) true:=by
    rw [List.set_append_right _ _ (by rw [h.fl1]; omega)]; congr 2; rw [h.fl1]; omega
   rw [e1,e2]
   refine h.loose.move h.ok (by rw [List.length_append]; omega) (by rw [← h.fl1,getD_app2]; exact hf) ?_
   rw [getD_app2]; exact k2
def Wk.left (x:Wk):Nat:=Pl.left (x.f1++x.f2)
theorem Wk.Good.less (h:x.Good) (k:x.Step y):x.left=y.left+1:=by
 cases k with
 | one i b q' k1 k2 =>
  obtain ⟨hi,hf,_⟩:=k1.ask
  show Pl.left (x.f1++x.f2)=Pl.left (x.f1.set i true++x.f2)+1
  rw [← List.set_append_left _ _ (by rw [h.fl1]; exact hi)]
  exact left_set _ i (by rw [List.length_append,h.fl1]; omega) (by rw [getD_app1 _ _ _ (by rw [h.fl1]; exact hi)]; exact hf)
 | two i b q' k0 k1 k2 =>
  obtain ⟨hi,hf,_⟩:=k1.ask
  show Pl.left (x.f1++x.f2)=Pl.left (x.f1++x.f2.set i true)+1
  have e2:x.f1++x.f2.set i true=(x.f1++x.f2).set (x.f1.length+i) true:=by
   rw [List.set_append_right _ _ (by omega)]; congr 2; omega
  rw [e2]
  exact left_set _ _ (by rw [List.length_append,h.fl2]; omega) (by rw [getD_app2]; exact hf)
end
end Go.Proofs.YtogchamogbendaaGreat.Pl
