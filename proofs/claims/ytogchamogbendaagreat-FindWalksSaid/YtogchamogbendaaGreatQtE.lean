import Derived.Deep.DeepCutAuto
import Derived.BigQuiet
import Derived.Lib.MinMax
import Derived.Laws.Bits64
import Derived.Lib.AppendZeros
import Derived.Deep.CutBlock
import Derived.Test.YtogchamogbendaaGreatQtD
import Derived.Test.YtogchamogbendaaGreatQtC
import Derived.Test.YtogchamogbendaaGreatQtu
set_option maxRecDepth 100000
set_option linter.unusedVariables false
set_option linter.unusedSimpArgs false
namespace Go.Proofs.YtogchamogbendaaGreat.Bs
open Go.RowKit Oct Mv Tl Pk Pl Go.Maps Go.ChangeMaps Go.ChangeShapes Go.WideShapes Go.ChangeAt
open Lf (Nd Fit nodePage RowN ToldN Rises)
section
variable {H:Type} {enc:TypeId×Value→H} {W:World}
theorem cellsItem:Tryz.prog.cellsOf 104 = 2:=by kernel_rfl
theorem cellsU64:Tryz.prog.cellsOf 30 = 1:=by kernel_rfl
theorem two_of {α:Type} : ∀(l:List α),l.length=2 → ∃c0 c1,l = [c0,c1]
 | [c0,c1],_=>⟨c0,c1,rfl⟩
theorem u64_of {n:Int} (h:(Lit.int .u64 n).wf=true) : ∃c:UInt64,n=(c.toNat:Int):=by
 have h2:IntKind.u64.min≤n∧n≤IntKind.u64.max:=by simpa [Lit.wf] using h
 have h0:IntKind.u64.min=0:=rfl
 have h1:IntKind.u64.max=18446744073709551615:=rfl
 rw [h0,h1] at h2
 refine ⟨UInt64.ofNat n.toNat,?_⟩
 rw [UInt64.toNat_ofNat',Nat.mod_eq_of_lt (by show n.toNat<18446744073709551616; omega)]
 omega
theorem came_item {n:Nat} {cs:List Value} {y:DataW H×List MemPlace} (h:DataW.trod enc Tryz.prog W 0 (fun _=>true) true n 104 cs=some y) :
  ∃x:Itm,cs = [.int .u64 (x.1.toNat:Int),.int .u64 (x.2.toNat:Int)]:=by
 obtain ⟨xs,n',rfl,hy,hlen,hxl,hf⟩:=DataW.trod_struct Tryz.underlying104 h
 rw [cellsItem] at hlen
 obtain ⟨c0,c1,rfl⟩:=two_of cs hlen
 obtain ⟨y0,y1,rfl⟩:=two_of xs hxl
 have h0:DataW.trod enc Tryz.prog W 0 (fun _=>true) true n' 30 (([c0,c1].drop 0).take (Tryz.prog.cellsOf 30))=some y0:=hf 0 _ rfl
 have h1:DataW.trod enc Tryz.prog W 0 (fun _=>true) true n' 30 (([c0,c1].drop 1).take (Tryz.prog.cellsOf 30))=some y1:=hf 1 _ rfl
 rw [cellsU64] at h0 h1
 obtain ⟨x,e0,_,w0⟩:=DataW.trod_int Tryz.underlying30 h0
 obtain ⟨p,e1,_,w1⟩:=DataW.trod_int Tryz.underlying30 h1
 obtain ⟨x,rfl⟩:=u64_of w0
 obtain ⟨p,rfl⟩:=u64_of w1
 simp at e0 e1
 subst e0 e1
 exact ⟨(x,p),rfl⟩
theorem ivs_range (F:Nat→Itm) : ∀n i,i<n→(ivs ((List.range n).map F))[2*i]?=some (.int .u64 ((F i).1.toNat:Int))∧(ivs ((List.range n).map F))[2*i+1]?=some (.int .u64 ((F i).2.toNat:Int)):=fun n i hi=>by
 have h1:=ivs_key ((List.range n).map F) i (by simpa using hi)
 have h2:=ivs_val ((List.range n).map F) i (by simpa using hi)
 simp only [List.getElem_map,List.getElem_range] at h1 h2
 exact ⟨h1,h2⟩
theorem came_items {d:DataW H} {p:List MemPlace} (A:Option Addr) (len cap:Nat) (h:DataW.Trod enc Tryz.prog W 0 (fun _=>true) true 83 (.slice A len cap) d p) :
  ∃l,IRow W A len cap l:=by
 obtain ⟨fuel,hf⟩:=h
 rcases Go.Deep.open_slice Tryz.underlying83 hf with ⟨hcs,_⟩ | ⟨a,len',cap',m,n,D,Pl,hcs,hb,hl,hm,hmm,hx,hi⟩
 ·simp [Value.cells] at hcs
  obtain ⟨rfl,rfl,rfl⟩:=hcs
  exact ⟨[],rfl,Nat.le_refl _,Nat.zero_le _,.inl rfl⟩
 ·simp [Value.cells] at hcs
  obtain ⟨rfl,rfl,rfl⟩:=hcs
  rw [if_pos rfl] at hmm
  subst hmm
  have each : ∀i,i<m → ∃x:Itm,∀j (hj:j<2),W.cell? ((a.add (i*2)).add j) = [Value.int .u64 (x.1.toNat:Int),.int .u64 (x.2.toNat:Int)][j]?:=fun i him=>by
   obtain ⟨cs',hc,ht'⟩:=hi i him
   obtain ⟨x,rfl⟩:=came_item ht'
   rw [cellsItem] at hc
   obtain ⟨_,hcl,hat⟩:=World.cells?_some hc
   exact ⟨x,fun j hj=>hat j hj⟩
  obtain ⟨F,hF⟩ : ∃F:Nat→Itm,∀i,i<len → ∀j (hj:j<2),W.cell? ((a.add (i*2)).add j) = [Value.int .u64 ((F i).1.toNat:Int),.int .u64 ((F i).2.toNat:Int)][j]? :=
   ⟨fun i=>if h:i<m then (each i h).choose else (0,0),fun i h=>by
    have h':i<m:=by omega
    simp only [h',dif_pos]
    exact (each i h').choose_spec⟩
  refine ⟨(List.range len).map F,by simp,hl,hm,?_⟩
  rcases Nat.eq_zero_or_pos len with h0 | h0
  ·left; rw [h0]; rfl
  ·have h1:=hF 0 (by omega) 0 (by omega)
   obtain ⟨b,o,spot⟩:=a
   have hspot:spot=none:=by simpa [Addr.add] using World.cell?_spot h1
   subst hspot
   refine .inr ⟨b,o,rfl,fun k hk => ?_⟩
   rw [length_ivs,List.length_map,List.length_range] at hk
   have ha : ∀i j,((Addr.mk b o none).add (i*2)).add j=⟨b,o+i*2+j,none⟩:=fun i j=>by rw [Oct.add_plain,Oct.add_plain]
   have hr:=ivs_range F len (k/2) (by omega)
   have h2:=hF (k/2) (by omega)
   rcases (show k=2*(k/2)∨k=2*(k/2)+1 by omega) with e | e
   ·have h3:=h2 0 (by omega)
    rw [ha] at h3
    have h4:=hr.1
    rw [← e,List.getElem?_eq_getElem (by rw [length_ivs,List.length_map,List.length_range]; omega)] at h4
    rw [show o+k=o+k/2*2+0 by omega,Option.some.inj h4]
    simpa using h3
   ·have h3:=h2 1 (by omega)
    rw [ha] at h3
    have h4:=hr.2
    rw [← e,List.getElem?_eq_getElem (by rw [length_ivs,List.length_map,List.length_range]; omega)] at h4
    rw [show o+k=o+k/2*2+1 by omega,Option.some.inj h4]
    simpa using h3
end
theorem tot_small {n:Nat} (h:n≤200):tot n≤59:=by
 rcases Nat.lt_or_ge 7 n with k | k
 ·rw [tot_more k]
  have:=tot_le (manyN n)
  have:manyN n≤29:=by unfold manyN; omega
  omega
 ·rw [tot_one k]; omega
theorem upH_small {n:Nat} (h:n≤343):upH n≤3:=by
 rcases Nat.lt_or_ge 7 n with k | k
 ·rw [upH_more k]
  rcases Nat.lt_or_ge 7 ((n+6)/7) with q | q
  ·rw [upH_more q,upH_one (by omega)]; omega
  ·rw [upH_one q]; omega
 ·rw [upH_one k]; omega
def Wood (y:BS) (n:Nat) (l:List Itm) (root:Nat):Prop :=
 Fed n y∧((l = []∧root=0) ∨ ∃lv,Held y (root:Int)∧Tr (nodeR y n) (Held y) (min (lv+1) 2) lv (root:Int) l∧lv+1=upH l.length)
theorem down_zero (x:BS) (n:Nat) (key:UInt64):downR x n 0 key=⟨true,[],[],0,maxU,0⟩:=by
 unfold downR
 rw [if_pos rfl]
section
variable {y:BS} {n root:Nat} {l:List Itm}
theorem Wood.low (h:Wood y n l root):root<400:=by
 have h4:=h.1.hi
 rcases h.2 with ⟨_,e⟩ | ⟨_,hh,_⟩
 ·omega
 ·have:=hh.lt h.1; omega
theorem Wood.get (h:Wood y n l root) (hr:Ris l) (hl:l.length≤200) (k:UInt64):getF (downR y n (root:Int) k) k=((look l k).1,(look l k).2,0):=by
 rcases h.2 with ⟨rfl,rfl⟩ | ⟨lv,hh,ht,hu⟩
 ·rw [show ((0:Nat):Int)=0 from rfl,down_zero]
  exact fw_get0 k
 ·have:=hh.lt h.1
  have:=upH_small (n:=l.length) (by omega)
  exact (get_tr h.1 ht hr (by omega) (by omega) k).1
theorem Wood.walk (h:Wood y n l root) (hr:Ris l) (hl:l.length≤200) (fr tt:UInt64) (most:Int) :
  (ranged l fr tt).map (fun p=>(p,0))=walkL (downR y n (root:Int)) tt 18446744073709551616 fr∧((ranged l fr tt).take most.toNat,0)=walkGo most [] ((ranged l fr tt).map (fun p=>(p,0))):=by
 have hg:walkGo most [] ((ranged l fr tt).map fun p=>(p,0))=((ranged l fr tt).take most.toNat,0):=by
  rw [go_take most (ranged l fr tt) [] (by
   by_cases h:most≤0
   ·exact .inl ⟨rfl,h⟩
   ·exact .inr (by show 0<most.toNat; omega))]
  rfl
 refine ⟨?_,hg.symm⟩
 rcases h.2 with ⟨rfl,rfl⟩ | ⟨lv,hh,ht,hu⟩
 ·rw [show ((0:Nat):Int)=0 from rfl,walkL_one (downR y n 0) tt fr _ (down_zero y n fr) rfl (by have:=tt.toNat_lt; show tt.toNat≤18446744073709551615; omega)]
  unfold leafRun runOn
  simp [ranged]
 ·have:=hh.lt h.1
  have h3:=upH_small (n:=l.length) (by omega)
  exact (walk_tr h.1 ht hr (by omega) (by omega) tt 18446744073709551616 fr (by omega)).symm
end
section
variable {Pr:Nat→Prop} {A:Adr} {y:BS} {w:World} {n root:Nat} {l:List Itm}
theorem wood_get (h:Wood y n l root) (hr:Ris l) (hl:l.length≤200) (ha:BAt Pr w A y) (k:UInt64) :
  Calls Tryz.prog 53 #[.pointer (some ⟨A.b,0,none⟩),.int .i64 (root:Int),.int .u64 (k.toNat:Int)] w fun e w'=>e = .returned (.tuple #[.int .u64 ((look l k).1.toNat:Int),.bool (look l k).2,.int .i64 0])∧Below w.heap.size w w' :=
 get_of root k _ (down_any h.1 ha root k (by have:=h.low; omega) _ rfl) ((look l k).1,(look l k).2,0) (h.get hr hl k).symm
theorem wood_walk (h:Wood y n l root) (hr:Ris l) (hl:l.length≤200) (ha:BAt Pr w A y) (fr tt:UInt64) (most:Int) :
  Calls Tryz.prog 55 #[.pointer (some ⟨A.b,0,none⟩),.int .i64 (root:Int),.int .u64 (fr.toNat:Int),.int .u64 (tt.toNat:Int),.int .i64 most] w fun e w' =>
   ∃v,e = .returned (.tuple #[v,.int .i64 0])∧OwnJ w' w.heap.size v ((ranged l fr tt).take most.toNat)∧Below w.heap.size w w' :=
 walk_base h.1 ha root (by have:=h.low; omega) fr tt most _ (h.walk hr hl fr tt most).1 (.inr (by rw [List.length_map]; have:=ranged_len l fr tt; omega)) ((ranged l fr tt).take most.toNat,0) (h.walk hr hl fr tt most).2
theorem build_wood {z:Wk} (hz:Begun0 200 z) (h:BAt Pr w A (made0 200 z)) {LA:Option Addr} {N c:Nat} (hrow:IRow w LA N c l) (hN:N≤200) (hris:Ris l) (hsep : ∀b o,LA=some ⟨b,o,none⟩→b∉A.list) :
  Calls Tryz.prog 51 #[.pointer (some ⟨A.b,0,none⟩),.slice LA N c] w fun e w' => ∃(b:Nat) (y:BS),e = .returned (.tuple #[.int .i64 (b:Int),.bool true])∧Wood y 200 l b∧BAt Pr w' A y∧ButL w w' A.list:=by
 have hf:=made_fed (by omega) (by omega) hz
 rcases Nat.eq_zero_or_pos N with h0 | h0
 ·subst h0
  have hl:l = []:=List.eq_nil_of_length_eq_zero hrow.el
  have HA:=Lib.hid h
  have HW:=Lib.hid (show Wood (made0 200 z) 200 l 0 from ⟨hf,.inl ⟨hl,rfl⟩⟩)
  clear h hrow hf hz
  go_enter Tryz.func51,Tryz.ntmps51
  go_wp2_with fail
  go_ret2
  exact ⟨0,_,rfl,HW.out,HA.out,ButL.refl _ _⟩
 ·have hroom:=(made_room (by omega) (by omega) hz).1
  have hnn:=(made_room (by omega) (by omega) hz).2
  have h5:need 200=5:=by decide
  have ht:=tot_small hN
  refine (build_any hf h l hrow ⟨h0,hN⟩ (by rw [hnn]; omega) hris hsep).mono ?_
  rintro e w' ⟨b,rfl,y,lv,h1,h2,h3,h4,_,h6,h7⟩
  exact ⟨b,y,rfl,⟨h1,.inr ⟨lv,h2,h3,by rw [hrow.el]; exact h4⟩⟩,h6,h7⟩
end
end Go.Proofs.YtogchamogbendaaGreat.Bs
namespace Go.Proofs.YtogchamogbendaaGreat.Bs
open Lib (hid)
open Go.RowKit Oct Mv Tl Pk Pl Go.Maps Go.ChangeMaps
open Lf (Nd Fit nodePage RowN ToldN Rises)
open No (atR at_any)
set_option maxHeartbeats 4000000 in
theorem awake13b (w:World):Calls Tryz.prog 48 #[] w fun e w'=>e = .returned (.bool true)∧Below w.heap.size w w':=by
 go_enter Tryz.func48,Tryz.ntmps48
 go_wp2_with fail
 refine (show Calls Tryz.prog 49 #[.int .i64 40] w _ from base_made 40 (by omega) (by omega) w).mono ?_
 rintro e w1 ⟨A,y,rfl,hbg,hA,hat,B1⟩
 have hy:y=fY:=fw_y hbg
 subst hy
 have HA:=hid hA
 have HBG:=hid hbg
 have HF0:=hid (made_fed (by omega) (by omega) hbg)
 have H1:=hid hat
 have HB1:=hid B1
 clear hbg hA hat B1
 go_wp2_with fail
 have bl:=(Below.refl w1.heap.size w1).alloc (Nat.le_refl _) (.cells #[.int .u64 2,.int .u64 20,.int .u64 5,.int .u64 50] 104)
 have rl:=alloc_rowV w1 104 [.int .u64 2,.int .u64 20,.int .u64 5,.int .u64 50]
 have hir:IRow (w1.alloc (.cells #[.int .u64 2,.int .u64 20,.int .u64 5,.int .u64 50] 104)) (some ⟨w1.heap.size,0,none⟩) 2 2 [(2,20),(5,50)]:=⟨rfl,Nat.le_refl _,by decide,(show HasV _ w1.heap.size 0 (ivs [(2,20),(5,50)]) from rl.has).told⟩
 refine (build_any HF0.out (H1.out.below bl) [(2,20),(5,50)] hir ⟨by decide,by decide⟩ (by rw [fw_room.2.1,fw_room.2.2,fw_room.1,tot_one (by decide)]; decide) (by unfold Ris; decide) (fun b o e hm=>by have:=H1.out.list_lt b hm; cases e; omega)).mono ?_
 rintro e w2 ⟨b,rfl,y9,lv9,_,_,_,_,hone,hat,hb⟩
 obtain ⟨hfd,rfl⟩:=hone (by decide)
 obtain rfl:b=4:=fw_found hfd
 have HX:=hid (fw1 HBG.out hfd)
 have HB2:=hid (lowb HA.out (HB1.out.trans (bl.mono HB1.out.size)) hb (Nat.le_refl _))
 have H2:=hid (show BAt _ w2 A ((made0 40 fY).put 4 (nodePage true [2,5] [20,50])) from hat)
 generalize (made0 40 fY).put 4 (nodePage true [2,5] [20,50])=x1 at *
 clear hfd hat hb bl rl hir H1 HB1 HF0 HBG
 go_wp2_with fail
 refine (show Calls Tryz.prog 52 #[.pointer (some ⟨A.b,0,none⟩),.int .i64 0] w2 (fun e w'=>e = .returned (.bool true)∧Below (World.heap w2).size w2 w') from fright_is HX.out.fed H2.out 0 (by omega) true fw_right0.symm).mono ?_
 rintro e w3 ⟨rfl,kz⟩
 have H3:=hid (H2.out.below kz)
 have HB3:=hid (HB2.out.trans (kz.mono HB2.out.size))
 clear kz H2 HB2
 go_wp2_with fail
 refine (show Calls Tryz.prog 52 #[.pointer (some ⟨A.b,0,none⟩),.int .i64 4] w3 (fun e w'=>e = .returned (.bool true)∧Below (World.heap w3).size w3 w') from fright_is HX.out.fed H3.out 4 (by omega) true (fw_right HX.out.node).symm).mono ?_
 rintro e w4 ⟨rfl,kz⟩
 have H4:=hid (H3.out.below kz)
 have HB4:=hid (HB3.out.trans (kz.mono HB3.out.size))
 clear kz H3 HB3
 go_wp2_with fail
 refine (show Calls Tryz.prog 53 #[.pointer (some ⟨A.b,0,none⟩),.int .i64 4,.int .u64 5] w4 (fun e w'=>e = .returned (.tuple #[.int .u64 50,.bool true,.int .i64 0])∧Below (World.heap w4).size w4 w') from get_of 4 5 leafW (down_any HX.out.fed H4.out 4 5 (by omega) leafW (fw_down HX.out.node 5).symm) (50,true,0) fw_get.symm).mono ?_
 rintro e w5 ⟨rfl,kz⟩
 have H5:=hid (H4.out.below kz)
 have HB5:=hid (HB4.out.trans (kz.mono HB4.out.size))
 clear kz H4 HB4
 go_wp2_with fail
 refine (show Calls Tryz.prog 55 #[.pointer (some ⟨A.b,0,none⟩),.int .i64 4,.int .u64 0,.int .u64 9,.int .i64 9] w5 (fun e w' => ∃v,e = .returned (.tuple #[v,.int .i64 0])∧OwnJ w' w5.heap.size v [(2,20),(5,50)]∧Below w5.heap.size w5 w') from walk_base HX.out.fed H5.out 4 (by omega) 0 9 9 (([(2,20),(5,50)]:List Itm).map (fun p=>(p,0))) (by rw [walkL_one (downR x1 40 4) 9 0 leafW (fw_down HX.out.node 0) rfl (by decide),fw_run1]) (.inl (by decide)) ([(2,20),(5,50)],0) (by decide)).mono ?_
 rintro e w6 ⟨va,rfl,ho,kz⟩
 have H6:=hid (H5.out.below kz)
 have HB6:=hid (HB5.out.trans (kz.mono HB5.out.size))
 have HLa:=hid (show OwnJ w6 w5.heap.size va [(2,20),(5,50)] ∧ ∀j∈A.list,j<w5.heap.size from ⟨ho,H5.out.list_lt⟩)
 obtain ⟨ga,ca,rfl⟩:=ownsRow_succ (k:=1) ho
 have HKa:=hid (ButL.refl w6 A.list)
 clear kz ho H5 HB5
 go_wp2_with fail
 refine (show Calls Tryz.prog 55 #[.pointer (some ⟨A.b,0,none⟩),.int .i64 4,.int .u64 3,.int .u64 9,.int .i64 9] w6 (fun e w' => ∃v,e = .returned (.tuple #[v,.int .i64 0])∧OwnJ w' w6.heap.size v [(5,50)]∧Below w6.heap.size w6 w') from walk_base HX.out.fed H6.out 4 (by omega) 3 9 9 (([(5,50)]:List Itm).map (fun p=>(p,0))) (by rw [walkL_one (downR x1 40 4) 9 3 leafW (fw_down HX.out.node 3) rfl (by decide),fw_run2]) (.inl (by decide)) ([(5,50)],0) (by decide)).mono ?_
 rintro e w7 ⟨vb,rfl,ho,kz⟩
 have H7:=hid (H6.out.below kz)
 have HB7:=hid (HB6.out.trans (kz.mono HB6.out.size))
 have HLb:=hid (show OwnJ w7 w6.heap.size vb [(5,50)] ∧ ∀j∈A.list,j<w6.heap.size from ⟨ho,H6.out.list_lt⟩)
 obtain ⟨gb,cb,rfl⟩:=ownsRow_succ (k:=0) ho
 have HKa:=hid (HKa.out.trans (ButL.of_below A.list kz (Nat.le_refl _)))
 have HKb:=hid (ButL.refl w7 A.list)
 clear kz ho H6 HB6
 go_wp2_with fail
 refine (show Calls Tryz.prog 56 #[.pointer (some ⟨A.b,0,none⟩),.int .i64 4] w7 (fun e w'=>e = .returned (.tuple #[.int .i64 1,.int .i64 0])∧Below (World.heap w7).size w7 w') from height_of 4 leafW (down_any HX.out.fed H7.out 4 0 (by omega) leafW (fw_down HX.out.node 0).symm)).mono ?_
 rintro e w8 ⟨rfl,kz⟩
 have H8:=hid (H7.out.below kz)
 have HB8:=hid (HB7.out.trans (kz.mono HB7.out.size))
 have HKa:=hid (HKa.out.trans (ButL.of_below A.list kz (Nat.le_refl _)))
 have HKb:=hid (HKb.out.trans (ButL.of_below A.list kz (Nat.le_refl _)))
 clear kz H7 HB7
 go_wp2_with fail
 refine (show Calls Tryz.prog 53 #[.pointer (some ⟨A.b,0,none⟩),.int .i64 0,.int .u64 5] w8 (fun e w'=>e = .returned (.tuple #[.int .u64 0,.bool false,.int .i64 0])∧Below (World.heap w8).size w8 w') from get_of 0 5 ⟨true,[],[],0,maxU,0⟩ (down_any HX.out.fed H8.out 0 5 (by omega) _ (fw_zero 5).symm) (0,false,0) (fw_get0 5).symm).mono ?_
 rintro e w9 ⟨rfl,kz⟩
 have H9:=hid (H8.out.below kz)
 have HB9:=hid (HB8.out.trans (kz.mono HB8.out.size))
 have HKa:=hid (HKa.out.trans (ButL.of_below A.list kz (Nat.le_refl _)))
 have HKb:=hid (HKb.out.trans (ButL.of_below A.list kz (Nat.le_refl _)))
 clear kz H8 HB8
 go_wp2_with fail
 have b1:=(Below.refl w9.heap.size w9).alloc (Nat.le_refl _) (.cells #[.int .u64 0,.int .u64 5] 30)
 have r1:=alloc_rowV w9 30 [.int .u64 0,.int .u64 5]
 have s1:(w9.alloc (.cells #[.int .u64 0,.int .u64 5] 30)).heap.size=w9.heap.size+1:=World.size_alloc ..
 have b2:=(Below.refl (w9.alloc (.cells #[.int .u64 0,.int .u64 5] 30)).heap.size (w9.alloc (.cells #[.int .u64 0,.int .u64 5] 30))).alloc (Nat.le_refl _) (.cells #[.int .u64 4,.int .u64 9] 30)
 have r2:=alloc_rowV (w9.alloc (.cells #[.int .u64 0,.int .u64 5] 30)) 30 [.int .u64 4,.int .u64 9]
 rw [s1] at r2 b2
 have r1b:=r1.below (by omega) b2
 have b12:=b1.trans (b2.mono (by omega))
 have hnd:Nd ((w9.alloc (.cells #[.int .u64 0,.int .u64 5] 30)).alloc (.cells #[.int .u64 4,.int .u64 9] 30)) (some ⟨w9.heap.size,0,none⟩) 2 2 (some ⟨w9.heap.size+1,0,none⟩) 2 2 [0,5] [4,9]:=⟨rfl,rfl,Nat.le_refl _,by decide,Nat.le_refl _,by decide,.inr ⟨_,_,rfl,fun i hi=>by
  match i,hi with
  | 0,_=>exact r1b.cellAt (i:=0) rfl
  | 1,_=>exact r1b.cellAt (i:=1) rfl⟩,.inr ⟨_,_,rfl,fun i hi=>by
  match i,hi with
  | 0,_=>exact r2.cellAt (i:=0) rfl
  | 1,_=>exact r2.cellAt (i:=1) rfl⟩⟩
 refine (put_law HX.out.fed (H9.out.below b12) HX.out.room false hnd fit_two).mono ?_
 rintro e w10 ⟨bb,rfl,hfd,hat,hb⟩
 have HY:=hid (fw2 HX.out hfd)
 have HB10:=hid (lowb HA.out (HB9.out.trans (b12.mono HB9.out.size)) hb (Nat.le_refl _))
 have H10:=hid (show BAt _ w10 A (x1.put bb (nodePage false [0,5] [4,9])) from hat)
 have HKa:=hid (HKa.out.trans ((ButL.of_below A.list b12 (Nat.le_refl _)).trans hb))
 have HKb:=hid (HKb.out.trans ((ButL.of_below A.list b12 (Nat.le_refl _)).trans hb))
 generalize x1.put bb (nodePage false [0,5] [4,9])=x2 at *
 clear b1 r1 s1 b2 r2 r1b b12 hnd hfd hat hb H9 HB9
 go_wp2_with fail
 refine (show Calls Tryz.prog 61 #[.pointer (some ⟨A.b,0,none⟩),.int .i64 2] w10 _ from fnode_any HY.out.fed H10.out 2 ⟨false,[],[],130⟩ HY.out.two.symm).mono ?_
 rintro e w11 ⟨KK,kk,VV,vv,rfl,_,kz,_,_⟩
 have al:=(Below.refl w11.heap.size w11).alloc (Nat.le_refl _) (.cells #[.bool false,.slice KK 0 kk,.slice VV 0 vv] 107)
 have BB:=kz.trans (al.mono kz.size)
 have H11:=hid (H10.out.below BB)
 have HB11:=hid (HB10.out.trans (BB.mono HB10.out.size))
 have hkb:=HKb.out.trans (ButL.of_below A.list BB (Nat.le_refl _))
 have hob:=World.ownsRow.cellAt HLb.out.1 0 (by decide)
 have hbl:=(HLb.out.1.lt (k:=gb) rfl)
 have cb:(w11.alloc (.cells #[.bool false,.slice KK 0 kk,.slice VV 0 vv] 107)).cell? ⟨gb,0,none⟩=some (.int .u64 5):=(World.cell?_of_block (a:=⟨gb,0,none⟩) (hkb.block gb hbl.2 (fun q=>by have:=HLb.out.2 gb q; omega))).trans (hob.trans rfl)
 have hbp:((bb:Nat):Int)<40∧(0:Int)≤(bb:Int):=by have:=HY.out.pos.2; omega
 clear kz al BB hkb hob hbl
 go_wp2_with fail
 refine (show Calls Tryz.prog 52 #[.pointer (some ⟨A.b,0,none⟩),.int .i64 (bb:Int)] _ (fun e w'=>e = .returned (.bool false)∧Below _ _ w') from fright_is HY.out.fed H11.out (bb:Int) (by omega) false (fw_wrong HY.out.top HY.out.node HY.out.pos.1).symm).mono ?_
 rintro e wz ⟨rfl,kz⟩
 go_wp2_with fail
 go_ret
 exact ⟨rfl,HB11.out.trans (kz.mono HB11.out.size)⟩
end Go.Proofs.YtogchamogbendaaGreat.Bs
namespace Go.Proofs.YtogchamogbendaaGreat.Bs
open Go.RowKit Oct Mv Tl Pk Pl Go.Maps Go.ChangeMaps
open Lf (Nd Fit nodePage RowN ToldN Rises CameN)
theorem IRow.below {w w':World} {A:Option Addr} {n c:Nat} {l:List Itm} (h:IRow w A n c l) (k:Below w.heap.size w w'):IRow w' A n c l:=⟨h.el,h.kc,h.km,h.es.below k⟩
end Go.Proofs.YtogchamogbendaaGreat.Bs
namespace Go.Proofs.YtogchamogbendaaGreat.Bs
open Lib (hid)
open Go.RowKit Oct Mv Tl Pk Pl Go.Maps Go.ChangeMaps
open Lf (Nd Fit nodePage RowN ToldN Rises CameN)
set_option maxHeartbeats 2000000 in
theorem made_big {A:Option Addr} {n c:Nat} {w:World} (hn:200<n) (hm:n≤maxLen):Calls Tryz.prog 60 #[.slice A n c] w fun e w'=>e = .returned (.tuple #[.pointer none,.int .i64 0,.bool false])∧Below w.heap.size w w':=by
 have hbi:(200:Int)<(n:Int):=by omega
 unfold maxLen at hm
 go_enter Tryz.func60,Tryz.ntmps60
 go_wp2_with fail
 refine (show Calls Tryz.prog 49 #[.int .i64 200] w _ from base_made 200 (by omega) (by omega) w).mono ?_
 rintro e w1 ⟨B,z,rfl,hbg,hB,hat,k1⟩
 have K1:=hid k1
 clear hbg hB hat k1
 go_wp2_with fail
 refine bodyPost_ret (v:=_) (No.res_iii rfl _) rfl ⟨rfl,K1.out⟩
structure Yard (w w':World) (l:List Itm) (B:Adr) (root:Nat) (y:BS):Prop where
 wood:Wood y 200 (risingF l) root
 at_:BAt (fun k=>k<w.heap.size) w' B y
 up : ∀k∈B.list,w.heap.size≤k
 low:Below w.heap.size w w'
set_option maxHeartbeats 4000000 in
theorem made_yes {A:Option Addr} {n c:Nat} {l:List Itm} {w:World} (h:IRow w A n c l) (hn:n≤200):Calls Tryz.prog 60 #[.slice A n c] w fun e w' => ∃(B:Adr) (root:Nat) (y:BS),e = .returned (.tuple #[.pointer (some ⟨B.b,0,none⟩),.int .i64 (root:Int),.bool true])∧Yard w w' l B root y:=by
 have H:=hid h
 have hbi : ¬(200:Int)<(n:Int):=by omega
 clear h
 go_enter Tryz.func60,Tryz.ntmps60
 go_wp2_with fail
 refine (show Calls Tryz.prog 49 #[.int .i64 200] w _ from base_made 200 (by omega) (by omega) w).mono ?_
 rintro e w1 ⟨B,z,rfl,hbg,hB,hat,k1⟩
 have HBG:=hid hbg
 have HB:=hid hB
 have HAT:=hid hat
 have K1:=hid k1
 clear hbg hB hat k1
 go_wp2_with fail
 refine (rising_any (H.out.below K1.out) (by omega) (risingF l) rfl).mono ?_
 rintro e w2 ⟨v,rfl,ho,k2⟩
 obtain ⟨G,cap,rfl,hg,_⟩:=ho.slice
 have hgl:=risingF_len l
 have HRI:=hid (risingF_ris l)
 have hll:=H.out.el
 have hNb:(risingF l).length≤200:=by omega
 have HSEP:=hid (show ∀b o,G=some ⟨b,o,none⟩→b∉B.list from fun b o e hmm=>by
  subst e
  have h1:=(ho.lt (k:=b) rfl).1
  have h2:=HAT.out.list_lt b hmm
  omega)
 have HG2:=hid hg
 have K2:=hid (K1.out.trans (k2.mono K1.out.size))
 have HAT2:=hid (HAT.out.below k2)
 clear ho hg k2 hgl hll
 go_wp2_with fail
 refine (build_wood HBG.out HAT2.out HG2.out hNb HRI.out HSEP.out).mono ?_
 rintro e w3 ⟨root,y,rfl,hw,hat3,hb3⟩
 have HY:=hid (show Yard w w3 l B root y from ⟨hw,hat3,HB.out,lowb HB.out K2.out hb3 (Nat.le_refl _)⟩)
 clear hw hat3 hb3
 go_wp2_with fail
 refine bodyPost_ret (v:=_) (No.res_iii rfl _) rfl ⟨B,root,y,rfl,HY.out⟩
end Go.Proofs.YtogchamogbendaaGreat.Bs
namespace Go.Proofs.YtogchamogbendaaGreat.Bs
open Go.RowKit Oct Mv Tl Pk Pl Go.Maps Go.ChangeMaps
open Lf (Nd Fit nodePage RowN ToldN Rises CameN)
theorem xr (a b:UInt64):bits .xor .u64 (a.toNat:Int) (b.toNat:Int)=((a ^^^ b).toNat:Int):=by rw [bits_xor_u64_nat _ _ a.toNat_lt b.toNat_lt,UInt64.toNat_xor]
theorem x5 (p q r:UInt64):p ^^^ q ^^^ r ^^^ p ^^^ q=r:=by
 rw [show p ^^^ q ^^^ r ^^^ p ^^^ q=(p ^^^ p) ^^^ (q ^^^ q) ^^^ r by ac_rfl,UInt64.xor_self,UInt64.xor_self,UInt64.zero_xor,UInt64.zero_xor]
theorem x5' (x y z p q r:UInt64) (h:x ^^^ y ^^^ z=p ^^^ q ^^^ r):x ^^^ y ^^^ z ^^^ p ^^^ q=r:=by rw [h]; exact x5 p q r
theorem three (x y z:UInt64) : ∃a lo b hi mid:UInt64,(if y.toNat<x.toNat then (y.toNat:Int) else (x.toNat:Int))=(a.toNat:Int)∧(if z.toNat<a.toNat then (z.toNat:Int) else (a.toNat:Int))=(lo.toNat:Int) ∧
  (if x.toNat<y.toNat then (y.toNat:Int) else (x.toNat:Int))=(b.toNat:Int)∧(if b.toNat<z.toNat then (z.toNat:Int) else (b.toNat:Int))=(hi.toNat:Int)∧x ^^^ y ^^^ z ^^^ lo ^^^ hi=mid∧lo.toNat≤mid.toNat∧mid.toNat≤hi.toNat:=by
 by_cases h1:y.toNat<x.toNat
 ·have h3 : ¬x.toNat<y.toNat:=by omega
  by_cases h2:z.toNat<y.toNat
  ·have h4 : ¬x.toNat<z.toNat:=by omega
   exact ⟨y,z,x,x,y,by rw [if_pos h1],by rw [if_pos h2],by rw [if_neg h3],by rw [if_neg h4],x5' _ _ _ _ _ _ (by ac_rfl),by omega,by omega⟩
  ·by_cases h4:x.toNat<z.toNat
   ·exact ⟨y,y,x,z,x,by rw [if_pos h1],by rw [if_neg h2],by rw [if_neg h3],by rw [if_pos h4],x5' _ _ _ _ _ _ (by ac_rfl),by omega,by omega⟩
   ·exact ⟨y,y,x,x,z,by rw [if_pos h1],by rw [if_neg h2],by rw [if_neg h3],by rw [if_neg h4],x5' _ _ _ _ _ _ (by ac_rfl),by omega,by omega⟩
 ·by_cases h3:x.toNat<y.toNat
  ·by_cases h2:z.toNat<x.toNat
   ·have h4 : ¬y.toNat<z.toNat:=by omega
    exact ⟨x,z,y,y,x,by rw [if_neg h1],by rw [if_pos h2],by rw [if_pos h3],by rw [if_neg h4],x5' _ _ _ _ _ _ (by ac_rfl),by omega,by omega⟩
   ·by_cases h4:y.toNat<z.toNat
    ·exact ⟨x,x,y,z,y,by rw [if_neg h1],by rw [if_neg h2],by rw [if_pos h3],by rw [if_pos h4],x5' _ _ _ _ _ _ (by ac_rfl),by omega,by omega⟩
    ·exact ⟨x,x,y,y,z,by rw [if_neg h1],by rw [if_neg h2],by rw [if_pos h3],by rw [if_neg h4],x5' _ _ _ _ _ _ (by ac_rfl),by omega,by omega⟩
  ·obtain rfl:y=x:=UInt64.toNat_inj.1 (by omega)
   by_cases h2:z.toNat<y.toNat
   ·have h4 : ¬y.toNat<z.toNat:=by omega
    exact ⟨y,z,y,y,y,by rw [if_neg h1],by rw [if_pos h2],by rw [if_neg h1],by rw [if_neg h4],x5' _ _ _ _ _ _ (by ac_rfl),by omega,by omega⟩
   ·by_cases h4:y.toNat<z.toNat
    ·exact ⟨y,y,y,z,y,by rw [if_neg h1],by rw [if_neg h2],by rw [if_neg h1],by rw [if_pos h4],x5' _ _ _ _ _ _ (by ac_rfl),by omega,by omega⟩
    ·obtain rfl:z=y:=UInt64.toNat_inj.1 (by omega)
     exact ⟨z,z,z,z,z,by rw [if_neg h1],by rw [if_neg h1],by rw [if_neg h1],by rw [if_neg h1],x5' _ _ _ _ _ _ rfl,by omega,by omega⟩
theorem mem_ranged {l:List Itm} {fr tt:UInt64} {p:Itm} (h:p∈ranged l fr tt):p∈l∧fr.toNat≤p.1.toNat∧p.1.toNat≤tt.toNat:=by
 unfold ranged at h
 rw [List.mem_filter] at h
 simpa using h
theorem ranged_ris {l:List Itm} (h:Ris l) (fr tt:UInt64):Ris (ranged l fr tt):=List.Pairwise.sublist List.filter_sublist h
theorem ranged_two {lo mid nx hi:UInt64} (h1:lo.toNat≤mid.toNat) (h2:mid.toNat<hi.toNat) (hn:nx.toNat=mid.toNat+1) : ∀ {l:List Itm},Ris l→ranged l lo hi=ranged l lo mid++ranged l nx hi
 | [],_=>rfl
 | p :: r,hr=>by
  have hup:=(List.pairwise_cons.1 hr).1
  have ih:=ranged_two h1 h2 hn (List.pairwise_cons.1 hr).2
  have e : ∀a b,ranged (p :: r) a b=ranged [p] a b++ranged r a b:=fun a b=>ranged_app [p] r a b
  rcases Nat.lt_or_ge mid.toNat p.1.toNat with q | q
  ·rw [ranged_none (l:=p :: r) (fr:=lo) (tt:=mid) fun s hs=>by
    right
    rcases List.mem_cons.1 hs with g | g
    ·rw [g]; exact q
    ·have:=hup s g; omega]
   rw [List.nil_append]
   refine ranged_same fun s hs => ?_
   have:p.1.toNat≤s.1.toNat:=hr.head hs
   omega
  ·rw [e lo hi,e lo mid,e nx hi,ih,ranged_none (l := [p]) (fr:=nx) (tt:=hi) (fun s hs=>by
    rw [List.mem_singleton.1 hs]; left; omega),List.nil_append,List.append_assoc]
   congr 1
   refine ranged_same fun s hs => ?_
   rw [List.mem_singleton.1 hs]
   omega
theorem look_mem {l:List Itm} (hr:Ris l) {p:Itm} (hp:p∈l):look l p.1=(p.2,true):=by
 obtain ⟨a,b,rfl⟩:=List.append_of_mem hp
 rw [look_app (fun s hs e=>by
  have:=hr.across hs (List.mem_cons_self (a:=p))
  rw [e] at this
  omega)]
 show (if p.1=p.1 then _ else _)=_
 rw [if_pos rfl]
theorem last_look {l:List Itm} (hr:Ris l) {lo mid:UInt64} (h:lo.toNat≤mid.toNat):(∃pre v,ranged l lo mid=pre ++ [(mid,v)]∧look l mid=(v,true))∨(look l mid=(0,false) ∧ ∀p∈ranged l lo mid,p.1≠mid):=by
 by_cases hk:mid∈l.map Prod.fst
 ·obtain ⟨p,hp,e⟩:=List.mem_map.1 hk
  left
  have hl:=look_mem hr hp
  rw [e] at hl
  obtain ⟨a,b,rfl⟩:=List.append_of_mem hp
  refine ⟨ranged a lo mid,p.2,?_,hl⟩
  have e1:ranged (p :: b) lo mid = [p]:=by
   rw [show p :: b = [p]++b from rfl,ranged_app,ranged_none (l:=b) (fun s hs=>by
    right
    have:=(List.pairwise_cons.1 hr.right).1 s hs
    rw [e] at this
    exact this),List.append_nil]
   unfold ranged
   rw [List.filter_cons,if_pos (by rw [e]; simpa using h)]
   rfl
  rw [ranged_app,e1,← e]
 ·refine .inr ⟨look_no fun p hp e=>hk (by rw [← e]; exact List.mem_map_of_mem hp),fun p hp e=>hk (by rw [← e]; exact List.mem_map_of_mem (mem_ranged hp).1)⟩
theorem OwnJ.irow {w:World} {base n c:Nat} {A:Option Addr} {xs:List Itm} (h:OwnJ w base (.slice A n c) xs):IRow w A n c xs:=by
 obtain ⟨A',c',e,hi,_⟩:=h.slice
 cases e
 exact hi
theorem vals_pre {w:World} {b o:Nat} {vs:List Value} (h:HasV w b o vs) (s:Nat):HasV w b o (vs.take s):=fun i hi=>by
 rw [List.length_take] at hi
 rw [h i (by omega),List.getElem_take]
theorem app_items {w:World} {base n c m d:Nat} {A B:Option Addr} {xs ys:List Itm} (hown:OwnJ w base (.slice A n c) xs) (hT:IRow w B m d ys) (hnil:B=none→d=0) (hsz:n+m≤100000) (hbase:base≤w.heap.size) (ty:TypeId) :
  ∃v' w',(Builtin.append_ #[83,83] ty #[.slice A n c,.slice B m d]).run Tryz.prog w = .ok v' w'∧OwnJ w' base v' (xs++ys)∧Below base w w'∧IRow w' A n c xs:=by
 obtain ⟨i0,hi,hz0,hz1,hz2⟩:=info_parts item_info
 have hold:=hown.irow
 have hxl:=hold.el
 cases B with
 | none =>
  have hy:ys = []:=by
   rcases hT.es with h | ⟨b,o,h,_⟩
   ·exact ivs_nil_iff.1 h
   ·cases h
  subst hy
  obtain rfl:m=0:=by simpa using hT.el.symm
  rw [hnil rfl]
  exact ⟨_,w,run_append_owned_none (P:=Tryz.prog) (w:=w) base 83 ty 104 i0 2 Tryz.underlying83 hi _ _ _ hown,by rw [List.append_nil]; exact hown,Below.refl _ _,hold⟩
 | some x =>
  have hnews : ∀j u,(ivs ys)[j]?=some u→w.cell? (x.add j)=some u:=fun j u hj=>by
   rcases hT.es with h | ⟨b,o,h,k⟩
   ·rw [h] at hj; simp at hj
   ·cases h
    rw [add_plain]
    exact k.cellAt hj
  have hyl:(ivs ys).length=m*2:=by rw [length_ivs,hT.el,Nat.mul_comm]
  obtain ⟨v',w',hr,ho,hg,_,hblk⟩:=run_append_own_at (P:=Tryz.prog) w base 83 ty 104 i0 (.agg #[.int .u64 0,.int .u64 0]) 2 16 Tryz.underlying83 hi hz0 hz1 hz2 rfl (by omega) _ xs.length (ivs xs) hown x m d (ivs ys) hyl hnews (ivs_one ys) (by unfold maxLen; omega) (by omega) hbase
  have ho':OwnJ w' base v' (xs++ys):=by
   unfold OwnJ
   rw [List.length_append,hT.el,ivs_append]
   exact ho
  have hlow:Below base w w':=⟨hg.os,hg.tape,hg.output,hg.size,fun k hk=>hg.block k (by omega) (fun e=>by have:=(hown.lt e.symm).1; omega)⟩
  refine ⟨v',w',hr,ho',hlow,?_⟩
  rcases hown.2 with ⟨e,h0⟩ | ⟨g,cap,cur,e,hb,hgg,hn,hm,hs,ht⟩
  ·cases e
   exact ⟨hxl,hold.kc,hold.km,.inl (by rw [List.eq_nil_of_length_eq_zero hxl]; rfl)⟩
  ·cases e
   by_cases hroom:xs.length+m≤c
   ·have hr2:=run_append_room (P:=Tryz.prog) w 83 ty 104 i0 Tryz.underlying83 hi g xs.length c cur hgg x m d (ivs ys) (by rw [hz1]; exact hyl) hnews (ivs_one ys) hroom (by rw [hz1,hyl,hs]; omega)
    have e3:=hr.symm.trans hr2
    injection e3 with e4 e5
    subst e4
    obtain ⟨_,_,cur2,hg2,_,_,hs2,ht2⟩:=ho'.opened
    refine ⟨hxl,hold.kc,hold.km,?_⟩
    have hh:HasV w' g 0 (ivs xs++ivs ys):=fun i hi2=>by
     rw [Nat.zero_add]
     have:=World.ownsRow.cellAt ho i (by rw [List.length_append,length_ivs,hyl] at hi2; omega)
     rw [this]
     simp [hi2]
    have hp:=vals_pre hh (2*xs.length)
    rw [List.take_left' (length_ivs xs)] at hp
    exact hp.told
   ·have hr2 := run_append_grow (P := Tryz.prog) w 83 ty 104 i0 (.agg #[.int .u64 0, .int .u64 0]) Tryz.underlying83 hi hz0 ⟨g, 0, none⟩ xs.length c (ivs xs) (by rw [hz1, length_ivs, Nat.mul_comm]) (fun j v hj => by
      rcases hold.es with q | ⟨b,o,e,k⟩
      ·rw [q] at hj; simp at hj
      ·cases e
       rw [add_plain]
       exact k.cellAt hj) x m d (ivs ys) (by rw [hz1]; exact hyl) hnews (by omega) (by omega) (growslice_fits (by omega) (by rw [hz2]; omega))
    have e3:=hr.symm.trans hr2
    injection e3 with e4 e5
    subst e5
    exact hold.below (((show Still w w.drew from ⟨rfl,rfl,rfl,rfl⟩).below w.heap.size).trans ((Below.refl w.drew.heap.size w.drew).alloc (Nat.le_refl _) _))
end Go.Proofs.YtogchamogbendaaGreat.Bs
namespace Go.Proofs.YtogchamogbendaaGreat.Bs
open Lib (hid)
open Go.RowKit Oct Mv Tl Pk Pl Go.Maps Go.ChangeMaps
open Lf (Nd Fit nodePage RowN ToldN Rises CameN)
theorem wpList_append_at {P:Program} (w:World) {ops:Array Oper} {rest:List Oper} {o:Oper} {a:Act} {Q:Exit→Act→World→Prop} (hgd:Region.wanted o (yielded ops a.tmps)=true) (s x:Operand) (t tn:TypeId)
  (ho:o.op = .call { callee := .builtin .append,args := #[s,x],argTypes := #[t,tn] }) (vs vx:Value) (hs:a.eval s=vs) (hx:a.eval x=vx)
  (v':Value) (w':World) (hr:(Builtin.append_ #[t,tn] o.type #[vs,vx]).run P w = .ok v' w') (h:wpList P ops Q rest (a.put o.dst v') w'):wpList P ops Q (o :: rest) a w :=
 wpList_step fun K hK=>by rw [if_pos hgd]; exact Lib.wp_append_run w s x t tn ho vs vx hs hx v' w' hr (hK _ _ h)
theorem take_min {α:Type} (l:List α) (k:Nat):l.take (min l.length k)=l.take k:=by
 rcases Nat.le_total l.length k with h | h
 ·rw [Nat.min_eq_left h,List.take_length,List.take_of_length_le h]
 ·rw [Nat.min_eq_right h]
theorem IRow.take {w:World} {A:Option Addr} {n c m:Nat} {l:List Itm} (h:IRow w A n c l) (hm:m≤n):IRow w A m c (l.take m):=by
 refine ⟨by rw [List.length_take,h.el]; omega,Nat.le_trans hm h.kc,h.km,?_⟩
 rcases h.es with q | ⟨b,o,e,hh⟩
 ·have:=ivs_nil_iff.1 q
  subst this
  exact .inl (by rw [List.take_nil]; rfl)
 ·refine .inr ⟨b,o,e,?_⟩
  have hp:=vals_pre hh (2*(l.take m).length)
  rw [show ivs l=ivs (l.take m)++ivs (l.drop m) by rw [← ivs_append,List.take_append_drop],List.take_left' (length_ivs _)] at hp
  exact hp
set_option maxHeartbeats 4000000 in
theorem fwalks_walk (A:Option Addr) (n c:Nat) (l:List Itm) (xn yn zn mn:Int) (w:World) (h:IRow w A n c l) (hx:(Lit.int .u64 xn).wf=true) (hy:(Lit.int .u64 yn).wf=true) (hz:(Lit.int .u64 zn).wf=true) (hm:(Lit.int .u8 mn).wf=true) :
  Calls Tryz.prog 8 #[.slice A n c,.int .u64 xn,.int .u64 yn,.int .u64 zn,.int .u8 mn] w fun e w'=>e = .returned (.bool true)∧Below w.heap.size w w':=by
 obtain ⟨x,rfl⟩:=u64_of hx
 obtain ⟨y,rfl⟩:=u64_of hy
 obtain ⟨z,rfl⟩:=u64_of hz
 obtain ⟨mo,hmo,hmb⟩ : ∃m:Nat,mn=(m:Int)∧m≤255:=by
  have h2:IntKind.u8.min≤mn∧mn≤IntKind.u8.max:=by simpa [Lit.wf] using hm
  have h0:IntKind.u8.min=0:=rfl
  have h1:IntKind.u8.max=255:=rfl
  rw [h0,h1] at h2
  exact ⟨mn.toNat,by omega,by omega⟩
 subst hmo
 have H:=hid h
 have hcm:=h.km
 have hnc:=h.kc
 have hcm':n≤maxLen:=Nat.le_trans hnc hcm
 clear h hx hy hz hm
 go_enter Tryz.func8,Tryz.ntmps8
 by_cases hbig:200<n
 ·go_wp2_with fail
  refine (made_big hbig hcm').mono ?_
  rintro e w1 ⟨rfl,k1⟩
  go_wp2_with fail
  refine (awake13b w1).mono ?_
  rintro e w2 ⟨rfl,kz⟩
  go_wp2_with fail
  go_ret
  exact ⟨rfl,k1.trans (kz.mono k1.size)⟩
 ·have hln:l.length≤200:=by have:=H.out.el; omega
  go_wp2_with fail
  refine (made_yes H.out (by omega)).mono ?_
  rintro e w1 ⟨B,root,yy,rfl,Y⟩
  have HWD:=hid Y.wood
  have HAT1:=hid Y.at_
  have K1:=hid Y.low
  clear Y
  have HRI:=hid (risingF_ris l)
  have HN:=hid (show (risingF l).length≤200 from Nat.le_trans (risingF_len l) hln)
  generalize risingF l=al at *
  obtain ⟨a1,lo,b1,hi,mid,t1,t2,t3,t4,t5,t6,t7⟩:=three x y z
  have q1:=xr x y
  have q2:=xr (x ^^^ y) z
  have q3:=xr (x ^^^ y ^^^ z) lo
  have q4:=xr (x ^^^ y ^^^ z ^^^ lo) hi
  rw [t5] at q4
  have HLO:=hid t6
  have HHI:=hid t7
  obtain ⟨c1,hc1⟩ : ∃c,c=x ^^^ y:=⟨_,rfl⟩
  rw [← hc1] at q1 q2 q3 q4
  obtain ⟨c2,hc2⟩ : ∃c,c=c1 ^^^ z:=⟨_,rfl⟩
  rw [← hc2] at q2 q3 q4
  obtain ⟨c3,hc3⟩ : ∃c,c=c2 ^^^ lo:=⟨_,rfl⟩
  rw [← hc3] at q3 q4
  clear hc1 hc2 hc3 t5 t6 t7
  go_upto_region 6 with (fail)
  clear q1 q2 q3 q4 t1 t2 t3 t4
  go_wp2_with fail
  refine (wood_walk HWD.out HRI.out HN.out HAT1.out lo hi 1000).mono ?_
  rintro e w2 ⟨va,rfl,hoa,k2⟩
  rw [List.take_of_length_le (show (ranged al lo hi).length≤(1000:Int).toNat by have:=ranged_len al lo hi; have:=HN.out; show _≤1000; omega)] at hoa
  have HAT2:=hid (HAT1.out.below k2)
  have K2:=hid (K1.out.trans (k2.mono K1.out.size))
  obtain ⟨ra,hra⟩ : ∃r,r=ranged al lo hi:=⟨_,rfl⟩
  rw [← hra] at hoa
  have HRA:=hid hra
  obtain ⟨Ga,ca,rfl,hga,_⟩:=hoa.slice
  have hlra:ra.length≤200:=by rw [hra]; have:=ranged_len al lo hi; have:=HN.out; omega
  have HGA2:=hid hga
  obtain ⟨na,hna⟩ : ∃x,x=ra.length:=⟨_,rfl⟩
  rw [← hna] at HGA2 hlra ⊢
  have HNA:=hid hna
  have hnac:na≤ca:=HGA2.out.kc
  have hcam:=HGA2.out.km
  unfold maxLen at hcam
  clear k2 hoa hga hra hna
  go_wp2_with fail
  refine (wood_walk HWD.out HRI.out HN.out HAT2.out lo hi (mo:Int)).mono ?_
  rintro e w3 ⟨vf,rfl,hof,k3⟩
  rw [← HRA.out,Int.toNat_natCast] at hof
  have HAT3:=hid (HAT2.out.below k3)
  have K3:=hid (K2.out.trans (k3.mono K2.out.size))
  have HGA3:=hid (HGA2.out.below k3)
  obtain ⟨Gf,cf,rfl,hgf,_⟩:=hof.slice
  have HGF3:=hid hgf
  obtain ⟨nf,hnf⟩ : ∃x,x=(ra.take mo).length:=⟨_,rfl⟩
  rw [← hnf] at HGF3 ⊢
  clear k3 hof hgf hnf
  go_wp2_with fail
  refine (wood_walk HWD.out HRI.out HN.out HAT3.out lo mid 1000).mono ?_
  rintro e w4 ⟨vo,rfl,hoo,k4⟩
  rw [List.take_of_length_le (show (ranged al lo mid).length≤(1000:Int).toNat by have:=ranged_len al lo mid; have:=HN.out; show _≤1000; omega)] at hoo
  obtain ⟨ro,hro⟩ : ∃r,r=ranged al lo mid:=⟨_,rfl⟩
  rw [← hro] at hoo
  have HRO:=hid hro
  obtain ⟨Gq,co,rfl,hgo,_⟩:=hoo.slice
  have hlro:ro.length≤200:=by rw [hro]; have:=ranged_len al lo mid; have:=HN.out; omega
  have HOO4:=hid hoo
  have HGO4:=hid hgo
  obtain ⟨no,hno⟩ : ∃x,x=ro.length:=⟨_,rfl⟩
  rw [← hno] at HOO4 HGO4 hlro ⊢
  have HNO:=hid hno
  have hnoc:no≤co:=HGO4.out.kc
  have hcom:=HGO4.out.km
  unfold maxLen at hcom
  have C4:=hid k4
  have HGA4:=hid (HGA3.out.below k4)
  have HGF4:=hid (HGF3.out.below k4)
  clear k4 hoo hgo hro hno
  obtain ⟨m,hm⟩ : ∃m:Nat,m=min na mo:=⟨_,rfl⟩
  have hm2:m≤na:=by omega
  have hmin:min (na:Int) (mo:Int)=(m:Int):=by omega
  have HM:=hid (show ra.take m=ra.take mo by rw [hm,HNA.out]; exact take_min ra mo)
  clear hm
  go_wp2_with fail
  refine (same_items HGF4.out (HGA4.out.take hm2)).mono ?_
  rintro e w5 ⟨rfl,k5⟩
  rw [decide_eq_true (HM.out.symm)]
  have C5:=hid (C4.out.trans (k5.mono C4.out.size))
  have HOO5:=hid (HOO4.out.kept k5 (Nat.le_refl _))
  have HGA5:=hid (HGA4.out.below k5)
  clear k5 HGF4 HGF3 hmin
  go_upto_if 108 with (fail)
  go_cut [] (fun wx=>Hid (Below w3.heap.size w3 wx)∧Hid (IRow wx Gq no co ro))
  case first =>
   by_cases hmh:mid.toNat<hi.toNat
   ·rw [decide_eq_true hmh]
    obtain ⟨nx,hnx⟩ : ∃nx,nx=mid+1:=⟨_,rfl⟩
    have hnt:nx.toNat=mid.toNat+1:=by
     have:=hi.toNat_lt
     rw [hnx,UInt64.toNat_add,show (1:UInt64).toNat=1 from rfl]
     exact Nat.mod_eq_of_lt (by omega)
    have hnz:(mid.toNat:Int)+1=(nx.toNat:Int):=by omega
    have HTW:=hid (ranged_two HLO.out hmh hnt HRI.out)
    rw [← HRA.out,← HRO.out] at HTW
    clear hnx hnt
    have hhl:=hi.toNat_lt
    go_wp2_with fail
    refine (wood_walk HWD.out HRI.out HN.out (HAT3.out.below C5.out) nx hi 1000).mono ?_
    rintro e w6 ⟨vt,rfl,hot,k6⟩
    rw [List.take_of_length_le (show (ranged al nx hi).length≤(1000:Int).toNat by have:=ranged_len al nx hi; have:=HN.out; show _≤1000; omega)] at hot
    obtain ⟨rt,hrt⟩ : ∃r,r=ranged al nx hi:=⟨_,rfl⟩
    rw [← hrt] at hot HTW
    obtain ⟨Gt,ct,rfl,hgt,hnil⟩:=hot.slice
    have hlrt:rt.length≤200:=by rw [hrt]; have:=ranged_len al nx hi; have:=HN.out; omega
    have C6:=hid (C5.out.trans (k6.mono C5.out.size))
    have HGA6:=hid (HGA5.out.below k6)
    have hoo6:=HOO5.out.kept k6 (Nat.le_refl _)
    obtain ⟨v7,w7,hr7,ho7,k7,hi7⟩:=app_items hoo6 hgt hnil (by omega) C6.out.size 83
    obtain ⟨G7,c7,rfl,hg7,_⟩:=ho7.slice
    obtain ⟨n7,hn7⟩ : ∃x,x=(ro++rt).length:=⟨_,rfl⟩
    rw [← hn7] at hg7 hr7
    have HG7:=hid hg7
    have HI7:=hid hi7
    have HR7:=hid hr7
    have C7:=hid (C6.out.trans k7)
    have HGA7:=hid (show IRow w7 Ga na ca ra from (HGA3.out.below C7.out))
    clear hot hgt hnil hoo6 ho7 hi7 hg7 k6 k7 hr7 hrt hn7
    go_wp2_with (at_builtin; refine wpList_append_at _ (by rfl) (.tmp 121) (.tmp 122) 83 83 rfl _ _ rfl rfl _ _ HR7.out ?_)
    refine (same_items HG7.out HGA7.out).mono ?_
    rintro e w8 ⟨rfl,k8⟩
    rw [decide_eq_true (HTW.out.symm)]
    have C8:=hid (C7.out.trans (k8.mono C7.out.size))
    have HI8:=hid (HI7.out.below k8)
    clear k8
    go_wp2_with fail
    go_meet
    case rel=>exact ⟨C8,HI8⟩
   ·rw [decide_eq_false hmh]
    have HI5:=hid HOO5.out.irow
    go_wp2_with fail
    go_meet
    case rel=>exact ⟨C5,HI5⟩
  case rest =>
   obtain ⟨CC,HIC⟩:=hcut
   clear HOO5 HOO4 C5 C4 HGA5 HGA4 HGO4
   have HGC:=hid (HGA3.out.below CC.out)
   have HRR:=hid (ranged_ris HRI.out lo hi)
   rw [← HRA.out] at HRR
   obtain ⟨wC,hwC⟩ : ∃q,q=wc:=⟨_,rfl⟩
   subst hwC
   go_wp2_with fail
   go_loopw [130] (fun i wr => ∃k:Nat,k≤na∧i = .int .i64 (k:Int)∧Hid (Below wC.heap.size wC wr)) (fun i _=>na-(Go.RowKit.intOf i).toNat)
   case atStart=>exact ⟨0,Nat.zero_le _,rfl,hid (Below.refl _ _)⟩
   case round =>
    obtain ⟨k,hk,rfl,HBr⟩:=hrel
    obtain ⟨wz,hwz⟩ : ∃q,q=wr:=⟨_,rfl⟩
    subst hwz
    have CR:=hid (CC.out.trans (HBr.out.mono CC.out.size))
    have HGr:=hid (HGC.out.below HBr.out)
    by_cases hlt:k<na
    ·have hkl:k<ra.length:=by rw [← HNA.out]; exact hlt
     obtain ⟨gb,go,rfl,hcc⟩:=HGr.out.at hlt
     have HCC:=hid hcc
     have cl0:=(hcc k hkl).1
     have cl1:=(hcc k hkl).2
     rw [show go+2*k=go+k*2 by omega] at cl0 cl1
     have hmem:=ranged_ris HRI.out lo hi
     have HLK:=hid (show look al ra[k].1=(ra[k].2,true)∧lo.toNat≤ra[k].1.toNat∧ra[k].1.toNat≤hi.toNat from by
      have h1:=mem_ranged (l:=al) (fr:=lo) (tt:=hi) (p:=ra[k]) (by rw [← HRA.out]; exact List.getElem_mem hkl)
      exact ⟨look_mem HRI.out h1.1,h1.2⟩)
     have HPV:=hid (show ∀g:0<k,(ra[k-1]'(by omega)).1.toNat<ra[k].1.toNat from fun g=>List.pairwise_iff_getElem.1 HRR.out (k-1) k (by omega) hkl (by omega))
     clear hcc hmem
     obtain ⟨p,hp⟩ : ∃p,p=ra[k]:=⟨_,rfl⟩
     rw [← hp] at cl0 cl1 HLK HPV
     clear hp
     have hki:(k:Int)<(na:Int):=by omega
     have b2:=(Below.refl wz.heap.size wz).alloc (Nat.le_refl _) (.cells #[.int .u64 (p.1.toNat:Int),.int .u64 (p.2.toNat:Int)] 104)
     have r2:=alloc_rowV wz 104 [.int .u64 (p.1.toNat:Int),.int .u64 (p.2.toNat:Int)]
     have x0:=r2.cellAt (i:=0) rfl
     have R2:=hid r2
     have B2:=hid b2
     obtain ⟨X,hX⟩ : ∃X,X=wz.heap.size:=⟨_,rfl⟩
     clear b2 r2
     go_upto_region 18 with (fail)
     rw [← hX] at x0 R2 ⊢
     have HX:=hid hX
     clear hX cl0 cl1
     generalize wz.alloc (.cells #[.int .u64 (p.1.toNat:Int),.int .u64 (p.2.toNat:Int)] 104)=w2' at *
     go_wp2_with fail
     refine (wood_get HWD.out HRI.out HN.out (HAT3.out.below (CR.out.trans (B2.out.mono CR.out.size))) p.1).mono ?_
     rintro e wa ⟨rfl,ka⟩
     rw [HLK.out.1]
     have ra2:=R2.out.below R2.out.lt ka
     have y0:=ra2.cellAt (i:=0) rfl
     have y1:=ra2.cellAt (i:=1) rfl
     have HBa:=hid (HBr.out.trans ((B2.out.trans (ka.mono B2.out.size)).mono HBr.out.size))
     have hz1:decide ((p.1.toNat:Int)<(lo.toNat:Int))=false:=decide_eq_false (by have:=HLK.out.2.1; omega)
     have hz2:decide (p.1.toNat<lo.toNat)=false:=decide_eq_false (by have:=HLK.out.2.1; omega)
     have hz3:decide ((hi.toNat:Int)<(p.1.toNat:Int))=false:=decide_eq_false (by have:=HLK.out.2.2; omega)
     have hz4:decide (hi.toNat<p.1.toNat)=false:=decide_eq_false (by have:=HLK.out.2.2; omega)
     have hKa:=B2.out.trans (ka.mono B2.out.size)
     clear ra2 ka
     by_cases h0:0<k
     ·have hz5:decide ((0:Int)<(k:Int))=true:=decide_eq_true (by omega)
      have hz6:decide (0<k)=true:=decide_eq_true h0
      have hkk:IntKind.i64.wrap ((k:Int)-1)=((k-1:Nat):Int):=by rw [wrap_i64 (by omega) (by omega)]; omega
      have hk1:(k:Int)-1=((k-1:Nat):Int):=by omega
      have hgb:gb<wz.heap.size:=World.block_lt_of_cell? wz _ (HCC.out k hkl).1
      have d0:=(hKa.cell hgb).trans (HCC.out (k-1) (by omega)).1
      rw [show go+2*(k-1)=go+(k-1)*2 by omega] at d0
      have HPV1:=hid (HPV.out h0)
      clear HCC
      generalize (ra[k-1]'(by omega))=q at d0 HPV1
      have hz7:decide ((p.1.toNat:Int)≤(q.1.toNat:Int))=false:=decide_eq_false (by have:=HPV1.out; omega)
      have hz8:decide (p.1.toNat≤q.1.toNat)=false:=decide_eq_false (by have:=HPV1.out; omega)
      clear HPV hKa
      go_wp2_with fail
      go_quiet (fail)
      go_wp2_with fail
      go_roundw
      case rel=>exact ⟨k+1,by omega,by go_num,hid (HBa.out.trans ((Still.drewN _ _).below _))⟩
      case measure=>simp [Go.RowKit.intOf]; omega
     ·obtain rfl:k=0:=by omega
      clear HPV HCC hKa
      go_wp2_with fail
      go_quiet (fail)
      go_wp2_with fail
      go_roundw
      case rel=>exact ⟨1,by omega,by go_num,hid (HBa.out.trans ((Still.drewN _ _).below _))⟩
      case measure=>simp [Go.RowKit.intOf]; omega
    ·have HIR:=hid (HIC.out.below HBr.out)
     have KZ:=hid (K3.out.trans (CR.out.mono K3.out.size))
     have hki : ¬(k:Int)<(na:Int):=by omega
     go_wp2_with fail
     refine (wood_get HWD.out HRI.out HN.out (HAT3.out.below CR.out) mid).mono ?_
     rintro e wa ⟨rfl,ka⟩
     have HIA:=hid (HIR.out.below ka)
     have KA:=hid (KZ.out.trans (ka.mono KZ.out.size))
     clear ka HIR KZ CR HBr HGr
     have HLL:=last_look HRI.out HLO.out
     rw [← HRO.out] at HLL
     by_cases hn0:no=0
     ·have e0:ro = []:=List.eq_nil_of_length_eq_zero (by rw [← HNO.out]; exact hn0)
      rcases HLL with ⟨pre,v,e1,_⟩ | ⟨e1,_⟩
      ·rw [e0] at e1; simp at e1
      ·rw [e1]
       subst hn0
       clear e0 e1
       go_wp2_with fail
       refine (awake13b _).mono ?_
       rintro e wg ⟨rfl,kg⟩
       go_wp2_with fail
       go_ret
       exact ⟨rfl,KA.out.trans (kg.mono KA.out.size)⟩
     ·obtain ⟨gb,go,rfl,hcc⟩:=HIA.out.at (i:=no-1) (by omega)
      have hnl:no-1<ro.length:=by rw [← HNO.out]; omega
      have d0:=(hcc (no-1) hnl).1
      have d1:=(hcc (no-1) hnl).2
      rw [show go+2*(no-1)=go+(no-1)*2 by omega] at d0 d1
      have hz1:decide ((0:Int)<(no:Int))=true:=decide_eq_true (by omega)
      have hz2:decide (0<no)=true:=decide_eq_true (by omega)
      have hk1:(no:Int)-1=((no-1:Nat):Int):=by omega
      have hn1:no-1<no:=by omega
      clear hcc
      rcases HLL with ⟨pre,v,e1,e2⟩ | ⟨e1,e2⟩
      ·have e3:ro[no-1]=(mid,v):=by
        have h1:no-1=pre.length:=by have:=HNO.out; rw [e1,List.length_append] at this; simp at this; omega
        subst e1
        rw [List.getElem_append_right (by omega)]
        simp [h1]
       rw [e3] at d0 d1
       rw [e2]
       clear e1 e2 e3
       go_wp2_with fail
       refine (awake13b _).mono ?_
       rintro e wg ⟨rfl,kg⟩
       go_wp2_with fail
       go_ret
       exact ⟨rfl,KA.out.trans (kg.mono KA.out.size)⟩
      ·have e3:=e2 _ (List.getElem_mem hnl)
       generalize ro[no-1]=q at d0 d1 e3
       have hne : ¬q.1.toNat=mid.toNat:=fun e=>e3 (UInt64.toNat_inj.1 e)
       have hz3:((q.1.toNat:Int)==(mid.toNat:Int))=false:=beq_eq_false_iff_ne.mpr (by omega)
       have hz4:decide ((q.1.toNat:Int)=(mid.toNat:Int))=false:=decide_eq_false (by omega)
       have hz5:decide (q.1.toNat=mid.toNat)=false:=decide_eq_false hne
       rw [e1]
       clear e1 e2 e3 hne
       go_wp2_with fail
       refine (awake13b _).mono ?_
       rintro e wg ⟨rfl,kg⟩
       go_wp2_with fail
       go_ret
       exact ⟨rfl,KA.out.trans (kg.mono KA.out.size)⟩
end Go.Proofs.YtogchamogbendaaGreat.Bs
