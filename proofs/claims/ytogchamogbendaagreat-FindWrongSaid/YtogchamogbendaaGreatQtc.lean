import Derived.Deep.AppendLies
import Derived.Test.YtogchamogbendaaGreatQtb
import Derived.Test.YtogchamogbendaaGreatQtk
import Derived.Test.YtogchamogbendaaGreatQto
import Derived.Test.YtogchamogbendaaGreatQtp
set_option maxRecDepth 100000
set_option linter.unusedVariables false
set_option linter.unusedSimpArgs false
namespace Go.Proofs.YtogchamogbendaaGreat.Dsk
open Lib (hid)
open Go.RowKit Oct
structure TurnO (base a:Nat) (wv:Value) (w w':World):Prop where
 t:Turned dT base w w'
 block : ∀k,k<w.heap.size→k≠a→wv.ownBlock≠some k→w'.heap[k]?=w.heap[k]?
theorem TurnO.trans {base a:Nat} {wv:Value} {x y z:World} (h:TurnO base a wv x y) (k:TurnO base a wv y z):TurnO base a wv x z :=
 ⟨h.t.trans k.t,fun j hj h1 h2=>(k.block j (Nat.lt_of_lt_of_le hj h.t.size) h1 h2).trans (h.block j hj h1 h2)⟩
theorem TurnO.of_below {base a:Nat} {wv:Value} {w w':World} (h:Below w.heap.size w w'):TurnO base a wv w w' :=
 ⟨Turned.of_below h,fun j hj _ _=>h.block j hj⟩
theorem TurnO.refl (base a:Nat) (wv:Value) (w:World):TurnO base a wv w w:=⟨Turned.refl _ _ _,fun _ _ _ _=>rfl⟩
theorem TurnO.drew {base a:Nat} {wv:Value} {x y:World} (h:TurnO base a wv x y):TurnO base a wv x y.drew:=⟨h.t.drew,h.block⟩
theorem calm_spent {s:St} (hg:s.gone=false) (ha:s.armed=false):s.spent=s:=by
 obtain ⟨n,B,W,g,m,l⟩:=s
 simp only at hg ha
 subst hg; subst ha
 rfl
theorem spend_calm {w:World} {base a bb bc:Nat} {wv:Value} {s:St} (h:At w base a bb bc wv s) (hg:s.gone=false) (ha:s.armed=false) :
  Calls Tryz.prog 107 #[.pointer (some ⟨a,2,none⟩)] w fun e w'=>e = .returned (.bool true)∧At w' base a bb bc wv s∧TurnO base a wv w w':=by
 have c2:=h.c2
 have c3:=h.c3
 have c4:=h.c4
 have H:=hid h
 rw [ha] at c3
 clear h
 go_enter Tryz.func107,Tryz.ntmps107
 go_wp2
 go_ret
 exact ⟨rfl,H.out,TurnO.refl _ _ _ _⟩
theorem wroteO {w w':World} {base a bb bc:Nat} {wv v':Value} {s:St} (h:At w base a bb bc wv s) (p:Nat) (bs:List UInt8) (hp:p<s.n) (hl:bs.length=128) (hf:s.W.length<1000000)
  (hown:w'.ownsRow base 158 129 v' (s.W.length+1) (wcells s.W++(pc p bs).toList)) (hg:w.grownBy w' wv.ownBlock) :
  At (w'.setCell ⟨a,1,none⟩ v') base a bb bc v' (s.wrote p bs)∧w'.cell? ⟨a,1,none⟩=some wv∧w'.frozen? ⟨a,1,none⟩=false∧TurnO base a wv w (w'.setCell ⟨a,1,none⟩ v'):=by
 obtain ⟨h1,h2,h3,h4⟩:=h.wrote p bs hp hl hf hown hg
 exact ⟨h1,h2,h3,h4,fun k hk k1 k2=>(heap_setCell_other _ _ _ _ k1).trans (hg.block k hk fun e=>k2 e.symm)⟩
def WriteO (w:World) (base a bb bc:Nat) (wv:Value) (s':St) (e:Ending) (w':World):Prop := ∃wv',e = .returned (.int .i64 0)∧At w' base a bb bc wv' s'∧TurnO base a wv w w' ∧ ∀k,wv'.ownBlock=some k→wv.ownBlock=some k∨w.heap.size≤k
set_option maxHeartbeats 1600000 in
theorem write_calm {w:World} {base a bb bc:Nat} {wv:Value} {s:St} (h:At w base a bb bc wv s) (hg:s.gone=false) (ha:s.armed=false) (hfew:s.W.length<1000000) (p:Nat) (hp:p<s.n) (ba:Option Addr) (bcap:Nat) (bs:List UInt8) (hl:bs.length=128) (hb : ∀w',TurnO base a wv w w'→Oct.Told w' ba bs) :
  Calls Tryz.prog 46 #[.pointer (some ⟨a,0,none⟩),.int .i64 (p:Int),.slice ba 128 bcap] w (WriteO w base a bb bc wv (s.wrote p bs)):=by
 have c0:=h.c0
 have c2:=h.c2
 rw [hg] at c2
 have c5:=h.c5
 have H:=hid h
 have HG:=hid hg
 have HAR:=hid ha
 have HL:=hid hl
 have HB:=hid hb
 clear h hg ha hl hb
 go_enter Tryz.func46,Tryz.ntmps46
 go_wp2_with fail
 refine (made_self a _ c5).mono ?_
 rintro e w' ⟨rfl,rfl⟩
 go_wp2_with fail
 refine (has_yes a bb s.n bc p _ c0 (by omega) (by omega)).mono ?_
 rintro e w' ⟨rfl,rfl⟩
 go_wp2_with fail
 refine (spend_calm H.out HG.out HAR.out).mono ?_
 rintro e w1 ⟨rfl,A1,T1⟩
 have hfew1:s.W.length<1000000:=hfew
 have hp1:p<s.n:=hp
 obtain ⟨s1,hs1⟩ : ∃x,x=s:=⟨_,rfl⟩
 rw [← hs1] at A1 hfew1 hp1 ⊢
 have HS1:=hid hs1
 clear hs1
 clear c0 c2 c5
 -- the local variable w, a block of its own
 have b2:Below w1.heap.size w1 (w1.alloc (.cells (pz p) 158)):=(Below.refl _ _).alloc (Nat.le_refl _) _
 have R2:(w1.alloc (.cells (pz p) 158)).heap[w1.heap.size]?=some (.cells (pz p).toList.toArray 158 (0,0)):=heap_alloc_new w1 _
 have S2:(w1.alloc (.cells (pz p) 158)).heap.size=w1.heap.size+1:=by simp
 obtain ⟨w3,hcopy,R3,S3,b3⟩:=run_copy_into (w1.alloc (.cells (pz p) 158)) 3 w1.heap.size 1 128 128 _ _ R2 bs ba 128 bcap HL.out (HB.out _ (T1.trans (TurnO.of_below b2))) (by omega) (by simp [pz,pc,vals])
 have hsp:splice (pz p).toList 1 (vals bs)=(pc p bs).toList:=by
  have:=HL.out
  simp [splice,pz,pc,length_vals,this]
 rw [hsp] at R3
 have b13:Below w1.heap.size w1 w3:=b2.trans (b3.mono (by omega))
 have A3:=A1.below b13
 have T3:TurnO base a wv w w3:=T1.trans (TurnO.of_below b13)
 -- region 9
 have hz1:=(zero_of_info write_info).1 w1
 have hst:=run_storeCells_new (P:=Tryz.prog) w1 158 zc (pz p) (by rw [(zero_of_info write_info).2]; unfold pz; rw [pc_size]; simp) (by rw [zc_size]; unfold pz; rw [pc_size]; simp) (pc_one _ _)
 have hne:=zc_ne
 have hzs:=zc_size
 have hset:=zc_set p
 have hps:(pz p).size=129:=by unfold pz; rw [pc_size]; simp
 have HR3:=hid R3
 have HA3:=hid A3
 have HT3:=hid T3
 clear b2 R2 S2 R3 S3 b3 hsp b13 A3 T3 A1 T1
 go_wp2_with fail
 obtain ⟨q,hq⟩ : ∃q,q=w1.heap.size:=⟨_,rfl⟩
 rw [← hq] at HR3 ⊢
 have HQ:=hid hq
 clear hcopy hz1 hst hset hps hq hne hzs
 have c1:=HA3.out.c1
 obtain ⟨A,cap,hv,hwc,hm,hA⟩:=HA3.out.wform
 have HV:=hid hv
 rw [hv] at c1
 have hps:(pc p bs).size=129:=by rw [pc_size,HL.out]
 have HR4:=hid (show w3.drew.heap[q]?=some (.cells (pc p bs) 158 (0,0)) from HR3.out)
 obtain ⟨ie,hie,hz0,hz1,hz2⟩:=info_parts write_row
 have hf : ∀(cells:Array Value) (parts:List (Nat×Value)),cells.size=ie.size→parts = [(0,.agg (pc p bs))]→Instr.fill (fun i=>some (i*ie.size,ie.size)) cells parts=some (pc p bs):=fun cells parts hcs hparts=>by
  subst hparts
  rw [hz1]
  exact fill_one cells _ hps (by rw [hcs,hz1])
 have HF:=hid hf
 have HIE:=hid hie
 have HZ0:=hid hz0
 have HZ1:=hid hz1
 have HZ2:=hid hz2
 have HPS:=hid hps
 have A4:=HA3.out.drew
 have T4:=HT3.out.drew
 have HM:=hid hm
 clear hps hf hie hz0 hz1 hz2 hv hm hA
 have HA4:=hid A4
 have HT4:=hid T4
 have c1':w3.drew.cell? ⟨a,1,none⟩=some (.slice A s1.W.length cap):=c1
 clear A4 T4 c1
 obtain ⟨w4,hw4⟩ : ∃w4,w4=w3.drew:=⟨_,rfl⟩
 refine wp_region_any (by kernel_rfl) ?_
 change wpAny _ _ _ _ _ _ _ (World.drew _)
 rw [← hw4] at HA4 HT4 c1' HR4 ⊢
 clear hw4
 refine wpAny_take (i:=0) (v := .pointer (some ⟨a,0,none⟩)) rfl (by kernel_rfl) (by kernel_rfl) (by kernel_rfl) (fun _ _ _ h=>h) (Or.inl ⟨rfl,fun w=>by go_simp⟩) ?_
 refine wpAny_take (i:=1) (v := .pointer (some ⟨a,0,none⟩)) rfl (by kernel_rfl) (by kernel_rfl) (by kernel_rfl) (fun _ _ _ h=>h) (Or.inl ⟨rfl,fun w=>by go_simp⟩) ?_
 refine wpAny_take (i:=2) (v := .pointer (some ⟨a,0,none⟩)) rfl (by kernel_rfl) (by kernel_rfl) (by kernel_rfl) (fun _ _ _ h=>h) (Or.inl ⟨rfl,fun w=>by go_simp⟩) ?_
 refine wpAny_take (i:=3) (v := .pointer (some ⟨a,1,none⟩)) rfl (by kernel_rfl) (by kernel_rfl) (by kernel_rfl) (fun _ _ _ h=>h) (Or.inl ⟨rfl,fun w=>by go_simp⟩) ?_
 refine wpAny_take (i:=4) (v := .pointer (some ⟨a,1,none⟩)) rfl (by kernel_rfl) (by kernel_rfl) (by kernel_rfl) (fun _ _ _ h=>h) (Or.inl ⟨rfl,fun w=>by go_simp⟩) ?_
 simp only [Act.put,List.setIfInBounds_toArray,List.set_cons_zero,List.set_cons_succ]
 have B5:Below w4.heap.size w4 (w4.alloc (.cells (pc p bs) 158)):=(Below.refl _ _).alloc (Nat.le_refl _) _
 have c15:(w4.alloc (.cells (pc p bs) 158)).cell? ⟨a,1,none⟩=some (.slice A s1.W.length cap):=(B5.cell (p:=⟨a,1,none⟩) HA4.out.lt).trans c1'
 have HB5:=hid B5
 clear B5
 refine wpAny_ready (rs := [5,6]) (by kernel_rfl) (by simp) ?_
 refine AllReady.cons rfl (fun K hK => ?_) (AllReady.cons rfl (fun K hK => ?_) AllReady.nil)
 ·go_simp
  refine hK _ _ ?_
  clear hK K
  try simp only [Act.put,List.setIfInBounds_toArray,List.set_cons_zero,List.set_cons_succ]
  refine wpAny_ready (rs := [6]) (by kernel_rfl) (by simp) ?_
  refine AllReady.cons rfl (fun K hK => ?_) AllReady.nil
  simp only [List.getElem_toArray,List.getElem_cons_succ,List.getElem_cons_zero]
  refine if_wanted (by rfl) ?_
  refine wp_load_row 158 (.tmp 7) rfl q rfl _ _ _ _ HR4.out Tryz.underlying158 rfl (by rw [HIE.out]; exact congrArg some (HZ1.out.trans HPS.out.symm)) ?_
  refine hK _ _ ?_
  clear hK K
  try simp only [Act.put,List.setIfInBounds_toArray,List.set_cons_zero,List.set_cons_succ]
  refine wpAny_ready (rs := [7]) (by kernel_rfl) (by simp) ?_
  refine AllReady.cons rfl (fun K hK => ?_) AllReady.nil
  simp only [List.getElem_toArray,List.getElem_cons_succ,List.getElem_cons_zero]
  refine if_wanted (by rfl) ?_
  refine wp_buildSlice 149 158 1 _ rfl (pc p bs) ie (.agg zc) Tryz.underlying149 HIE.out HZ0.out (by rw [HZ1.out]; decide) (by rw [HZ1.out]; decide) (HF.out _ _ (by simp) (by simp [Act.put,Act.eval])) ?_
  refine hK _ _ ?_
  clear hK K
  try simp only [Act.put,List.setIfInBounds_toArray,List.set_cons_zero,List.set_cons_succ]
  refine wpAny_tail 8 (by rfl) (by kernel_rfl) ?_
  simp only [List.drop_succ_cons,List.drop_zero]
  have A5:=HA4.out.below HB5.out
  have T5:TurnO base a wv w4 (w4.alloc (.cells (pc p bs) 158)):=TurnO.of_below HB5.out
  have R5:=heap_alloc_new w4 (.cells (pc p bs) 158)
  obtain ⟨r,hr⟩ : ∃r,r=w4.heap.size:=⟨_,rfl⟩
  rw [← hr] at R5 ⊢
  generalize w4.alloc (.cells (pc p bs) 158)=w5 at *
  obtain ⟨g6,cap6,w6,hrun,ho6,hg6,hlie,_⟩:=run_append_lies (P:=Tryz.prog) (w:=w5) 149 149 base 158 ie (.agg zc) 129 136 Tryz.underlying149 HIE.out HZ0.out HZ1.out HZ2.out zc_size (by decide) wv s1.W.length (wcells s1.W) A5.waits ⟨r,0,none⟩ 1 1 (pc p bs).toList
   (by simpa using HPS.out)
   (fun j u hu=>by rw [add_plain,Nat.zero_add,cell_of_row w5 r j _ _ _ R5]; simpa using hu)
   (fun u hu=>Array.all_eq_true_iff_forall_mem.1 (pc_one p bs) u (by simpa using hu))
   (by omega) (by unfold maxLen; omega) (by omega) (by have:=A5.lo; have:=A5.lt; omega) _ rfl
  obtain ⟨A6,k1,f1,T6⟩:=wroteO A5 p bs hp1 HL.out hfew1 ho6 hg6
  have HLI:Hid (wv.ownBlock=some g6∨w.heap.size≤g6):=hid (hlie.imp id fun e=>by have z1:=HT4.out.t.size; have z2:=T5.t.size; omega)
  have HA6:=hid A6
  have HT6:=hid (HT4.out.trans (T5.trans T6))
  rw [HV.out] at hrun k1
  clear hr A6 T6 T5 A5 ho6 hg6 R5 c1' hlie
  refine wpList_append_run rfl (.tmp 47) (.tmp 49) 149 rfl _ _ (by simp [Act.put,Act.eval]) (by simp [Act.put,Act.eval]) _ w6 hrun ?_
  clear hrun
  go_wp2_with fail
  go_ret
  refine ⟨.slice (some ⟨g6,0,none⟩) (s1.W.length+1) cap6,rfl,by rw [← HS1.out]; exact HA6.out,HT6.out,fun k hk => ?_⟩
  have hgk:g6=k:=by simpa [Value.ownBlock] using hk
  rw [← hgk]
  exact HLI.out
 ·simp only [List.getElem_toArray,List.getElem_cons_succ,List.getElem_cons_zero]
  refine if_wanted (by rfl) ?_
  refine wp_load_row 158 (.tmp 7) rfl q rfl _ _ _ _ HR4.out Tryz.underlying158 rfl (by rw [HIE.out]; exact congrArg some (HZ1.out.trans HPS.out.symm)) ?_
  refine hK _ _ ?_
  clear hK K
  try simp only [Act.put,List.setIfInBounds_toArray,List.set_cons_zero,List.set_cons_succ]
  refine wpAny_ready (rs := [5,7]) (by kernel_rfl) (by simp) ?_
  refine AllReady.cons rfl (fun K hK => ?_) (AllReady.cons rfl (fun K hK => ?_) AllReady.nil)
  ·go_simp
   refine hK _ _ ?_
   clear hK K
   try simp only [Act.put,List.setIfInBounds_toArray,List.set_cons_zero,List.set_cons_succ]
   refine wpAny_ready (rs := [7]) (by kernel_rfl) (by simp) ?_
   refine AllReady.cons rfl (fun K hK => ?_) AllReady.nil
   simp only [List.getElem_toArray,List.getElem_cons_succ,List.getElem_cons_zero]
   refine if_wanted (by rfl) ?_
   refine wp_buildSlice 149 158 1 _ rfl (pc p bs) ie (.agg zc) Tryz.underlying149 HIE.out HZ0.out (by rw [HZ1.out]; decide) (by rw [HZ1.out]; decide) (HF.out _ _ (by simp) (by simp [Act.put,Act.eval])) ?_
   refine hK _ _ ?_
   clear hK K
   try simp only [Act.put,List.setIfInBounds_toArray,List.set_cons_zero,List.set_cons_succ]
   refine wpAny_tail 8 (by rfl) (by kernel_rfl) ?_
   simp only [List.drop_succ_cons,List.drop_zero]
   have A5:=HA4.out.below HB5.out
   have T5:TurnO base a wv w4 (w4.alloc (.cells (pc p bs) 158)):=TurnO.of_below HB5.out
   have R5:=heap_alloc_new w4 (.cells (pc p bs) 158)
   obtain ⟨r,hr⟩ : ∃r,r=w4.heap.size:=⟨_,rfl⟩
   rw [← hr] at R5 ⊢
   generalize w4.alloc (.cells (pc p bs) 158)=w5 at *
   obtain ⟨g6,cap6,w6,hrun,ho6,hg6,hlie,_⟩:=run_append_lies (P:=Tryz.prog) (w:=w5) 149 149 base 158 ie (.agg zc) 129 136 Tryz.underlying149 HIE.out HZ0.out HZ1.out HZ2.out zc_size (by decide) wv s1.W.length (wcells s1.W) A5.waits ⟨r,0,none⟩ 1 1 (pc p bs).toList
    (by simpa using HPS.out)
    (fun j u hu=>by rw [add_plain,Nat.zero_add,cell_of_row w5 r j _ _ _ R5]; simpa using hu)
    (fun u hu=>Array.all_eq_true_iff_forall_mem.1 (pc_one p bs) u (by simpa using hu))
    (by omega) (by unfold maxLen; omega) (by omega) (by have:=A5.lo; have:=A5.lt; omega) _ rfl
   obtain ⟨A6,k1,f1,T6⟩:=wroteO A5 p bs hp1 HL.out hfew1 ho6 hg6
   have HLI:Hid (wv.ownBlock=some g6∨w.heap.size≤g6):=hid (hlie.imp id fun e=>by have z1:=HT4.out.t.size; have z2:=T5.t.size; omega)
   have HA6:=hid A6
   have HT6:=hid (HT4.out.trans (T5.trans T6))
   rw [HV.out] at hrun k1
   clear hr A6 T6 T5 A5 ho6 hg6 R5 c1' hlie
   refine wpList_append_run rfl (.tmp 47) (.tmp 49) 149 rfl _ _ (by simp [Act.put,Act.eval]) (by simp [Act.put,Act.eval]) _ w6 hrun ?_
   clear hrun
   go_wp2_with fail
   go_ret
   refine ⟨.slice (some ⟨g6,0,none⟩) (s1.W.length+1) cap6,rfl,by rw [← HS1.out]; exact HA6.out,HT6.out,fun k hk => ?_⟩
   have hgk:g6=k:=by simpa [Value.ownBlock] using hk
   rw [← hgk]
   exact HLI.out
  ·simp only [List.getElem_toArray,List.getElem_cons_succ,List.getElem_cons_zero]
   refine if_wanted (by rfl) ?_
   refine wp_buildSlice 149 158 1 _ rfl (pc p bs) ie (.agg zc) Tryz.underlying149 HIE.out HZ0.out (by rw [HZ1.out]; decide) (by rw [HZ1.out]; decide) (HF.out _ _ (by simp) (by simp [Act.put,Act.eval])) ?_
   refine hK _ _ ?_
   clear hK K
   try simp only [Act.put,List.setIfInBounds_toArray,List.set_cons_zero,List.set_cons_succ]
   refine wpAny_ready (rs := [5]) (by kernel_rfl) (by simp) ?_
   refine AllReady.cons rfl (fun K hK => ?_) AllReady.nil
   go_simp
   refine hK _ _ ?_
   clear hK K
   try simp only [Act.put,List.setIfInBounds_toArray,List.set_cons_zero,List.set_cons_succ]
   refine wpAny_tail 8 (by rfl) (by kernel_rfl) ?_
   simp only [List.drop_succ_cons,List.drop_zero]
   have A5:=HA4.out.below HB5.out
   have T5:TurnO base a wv w4 (w4.alloc (.cells (pc p bs) 158)):=TurnO.of_below HB5.out
   have R5:=heap_alloc_new w4 (.cells (pc p bs) 158)
   obtain ⟨r,hr⟩ : ∃r,r=w4.heap.size:=⟨_,rfl⟩
   rw [← hr] at R5 ⊢
   generalize w4.alloc (.cells (pc p bs) 158)=w5 at *
   obtain ⟨g6,cap6,w6,hrun,ho6,hg6,hlie,_⟩:=run_append_lies (P:=Tryz.prog) (w:=w5) 149 149 base 158 ie (.agg zc) 129 136 Tryz.underlying149 HIE.out HZ0.out HZ1.out HZ2.out zc_size (by decide) wv s1.W.length (wcells s1.W) A5.waits ⟨r,0,none⟩ 1 1 (pc p bs).toList
    (by simpa using HPS.out)
    (fun j u hu=>by rw [add_plain,Nat.zero_add,cell_of_row w5 r j _ _ _ R5]; simpa using hu)
    (fun u hu=>Array.all_eq_true_iff_forall_mem.1 (pc_one p bs) u (by simpa using hu))
    (by omega) (by unfold maxLen; omega) (by omega) (by have:=A5.lo; have:=A5.lt; omega) _ rfl
   obtain ⟨A6,k1,f1,T6⟩:=wroteO A5 p bs hp1 HL.out hfew1 ho6 hg6
   have HLI:Hid (wv.ownBlock=some g6∨w.heap.size≤g6):=hid (hlie.imp id fun e=>by have z1:=HT4.out.t.size; have z2:=T5.t.size; omega)
   have HA6:=hid A6
   have HT6:=hid (HT4.out.trans (T5.trans T6))
   rw [HV.out] at hrun k1
   clear hr A6 T6 T5 A5 ho6 hg6 R5 c1' hlie
   refine wpList_append_run rfl (.tmp 47) (.tmp 49) 149 rfl _ _ (by simp [Act.put,Act.eval]) (by simp [Act.put,Act.eval]) _ w6 hrun ?_
   clear hrun
   go_wp2_with fail
   go_ret
   refine ⟨.slice (some ⟨g6,0,none⟩) (s1.W.length+1) cap6,rfl,by rw [← HS1.out]; exact HA6.out,HT6.out,fun k hk => ?_⟩
   have hgk:g6=k:=by simpa [Value.ownBlock] using hk
   rw [← hgk]
   exact HLI.out
theorem spend_still (a:Nat) (w:World) (c3:w.cell? ⟨a,3,none⟩=some (.bool false)) :
  Calls Tryz.prog 107 #[.pointer (some ⟨a,2,none⟩)] w fun e w'=>e = .returned (.bool true)∧w=w':=by
 go_enter Tryz.func107,Tryz.ntmps107
 go_wp2
 go_ret
 exact ⟨rfl,rfl⟩
def FlushO (w:World) (base a bb bc:Nat) (s':St) (e:Ending) (w':World):Prop:=e = .returned (.int .i64 0)∧At w' base a bb bc (.slice none 0 0) s'∧Turned dT base w w'∧Only w w' a bb
set_option maxHeartbeats 800000 in
theorem flush_calm {w:World} {base a bb bc:Nat} {wv:Value} {s1:St} (h:At w base a bb bc wv s1) (hg:s1.gone=false) (ha:s1.armed=false) :
  Calls Tryz.prog 162 #[.pointer (some ⟨a,0,none⟩)] w (FlushO w base a bb bc s1.flushed):=by
 have c2:=h.c2
 rw [hg] at c2
 have c5:=h.c5
 have c3:=h.c3
 have c4:=h.c4
 rw [ha] at c3
 have H:=hid h
 have HG:=hid hg
 have HAR:=hid ha
 clear h hg ha
 go_enter Tryz.func162,Tryz.ntmps162
 go_wp2_with fail
 refine (made_self a _ c5).mono ?_
 rintro e w' ⟨rfl,rfl⟩
 go_wp2_with fail
 refine (spend_still a _ c3).mono ?_
 rintro e w' ⟨rfl,rfl⟩
 have c1:=H.out.c1
 obtain ⟨A,cap,hv,hwc,hm,hA⟩:=H.out.wform
 rw [hv] at c1
 have HF:=hid (show s1.flushed = { laid s1 (fun _=>128) s1.W.length with W := [] } from by unfold St.flushed; rw [calm_spent HG.out HAR.out])
 have hfew:=H.out.ok.few
 unfold maxLen at hm
 have HA1:=H
 have HV:=hid hv
 have HAA:=hid hA
 clear hv hA c2 c5 c3 c4
 go_wp2_with fail
 go_loopw [27] (fun i wr => ∃k:Nat,k≤s1.W.length∧i = .int .i64 (k:Int)∧Hid (At wr base a bb bc wv (laid s1 (fun _=>128) k))∧Hid (Turned dT base w wr∧Only w wr a bb)) (fun i _=>s1.W.length-(intOf i).toNat)
 case atStart=>exact ⟨0,Nat.zero_le _,rfl,HA1,hid ⟨Turned.refl _ _ _,Only.refl _ _ _⟩⟩
 case round =>
  obtain ⟨k,hk,rfl,HR,HT⟩:=hrel
  obtain ⟨hfn,hfW,_⟩:=laid_frame s1 (fun _=>128) k
  have HFN:=hid hfn
  have c1:=HR.out.c1
  rw [HV.out] at c1
  clear c1 hfn hfW
  have c1:=HR.out.c1
  rw [HV.out] at c1
  by_cases hlt:k<s1.W.length
  ·obtain ⟨g,hg,hg2⟩:=HAA.out (by omega)
   have hki:(k:Int)<(s1.W.length:Int):=by omega
   obtain ⟨W1,W2⟩:=wait_of HR.out.drew (by rw [HV.out,hg]) hlt
   have hw1:=HA1.out.ok.wait s1.W[k] (List.getElem_mem hlt)
   have hl128:=hid hw1.2
   have HS:=hid (laid_succ s1 (fun _=>128) k hlt)
   have hp:s1.W[k].1<(laid s1 (fun _=>128) k).n:=by rw [HFN.out]; exact hw1.1
   subst hg
   have HW1:=hid W1
   have HW2:=hid W2
   clear W1 W2 hw1 hg2
   go_wp2_with fail
   go_still_tail 10,(by kernel_rfl)
   change wpList _ _ _ _ _ wr.drew
   go_wp2_with fail
   refine (lay_at2 HR.out.drew g (k*129) s1.W[k].1 128 s1.W[k].2 hl128.out (by omega) hp HW1.out HW2.out).mono ?_
   rintro e w3 ⟨rfl,A3,T3,O3⟩
   rw [← HS.out] at A3
   have HA3:=hid A3
   have HT3:=hid (show Turned dT base w w3∧Only w w3 a bb from ⟨HT.out.1.drew.trans T3,HT.out.2.drew.trans O3⟩)
   clear A3 T3 O3 c1
   go_wp2_with fail
   go_roundw
   case rel=>exact ⟨k+1,by omega,by go_num,HA3,HT3⟩
   case measure=>simp [intOf]; omega
  ·obtain rfl:k=s1.W.length:=by omega
   have f1:=HR.out.f 1
   go_wp2_with fail
   go_ret
   refine ⟨rfl,?_,?_,?_⟩
   ·rw [HF.out]
    exact HR.out.cleared
   ·exact HT.out.1.setCell HR.out.lo HR.out.head rfl _
   ·exact HT.out.2.set 1 _
end Go.Proofs.YtogchamogbendaaGreat.Dsk
namespace Go.Proofs.YtogchamogbendaaGreat.Bs
open Go.RowKit Oct Mv Tl Pk Pl Go.Maps
open Dsk (dT)
theorem lt_of_heap {w:World} {j:Nat} {o:Obj} (h:w.heap[j]?=some o):j<w.heap.size:=by
 rcases Nat.lt_or_ge j w.heap.size with h1 | h1
 ·exact h1
 ·rw [Array.getElem?_eq_none h1] at h; cases h
structure Off (T:TypeId→Bool) (Pr:Nat→Prop) (L:List Nat) (w w':World):Prop where
 os:w'.os=w.os
 tape:w'.tape=w.tape
 output:w'.output=w.output
 size:w.heap.size≤w'.heap.size
 block : ∀k,k<w.heap.size→k∉L→(Pr k ∨ ∀cs t fr,w.heap[k]?=some (.cells cs t fr)→T t=false)→w'.heap[k]?=w.heap[k]?
section
variable {T:TypeId→Bool} {Pr:Nat→Prop} {L:List Nat} {w w' w'':World}
theorem Off.refl (T:TypeId→Bool) (Pr:Nat→Prop) (L:List Nat) (w:World):Off T Pr L w w:=⟨rfl,rfl,rfl,Nat.le_refl _,fun _ _ _ _=>rfl⟩
theorem Off.trans (h:Off T Pr L w w') (k:Off T Pr L w' w''):Off T Pr L w w'' :=
 ⟨k.os.trans h.os,k.tape.trans h.tape,k.output.trans h.output,Nat.le_trans h.size k.size,fun j hj h1 h2=>by
  have e:=h.block j hj h1 h2
  exact (k.block j (Nat.lt_of_lt_of_le hj h.size) h1 (by rw [e]; exact h2)).trans e⟩
theorem Off.of_butL (T:TypeId→Bool) (Pr:Nat→Prop) (h:ButL w w' L):Off T Pr L w w':=⟨h.os,h.tape,h.output,h.size,fun k hk h1 _=>h.block k hk h1⟩
theorem Off.of_below (T:TypeId→Bool) (Pr:Nat→Prop) (L:List Nat) {B:Nat} (h:Below B w w') (hB:w.heap.size≤B):Off T Pr L w w':=Off.of_butL T Pr (ButL.of_below L h hB)
theorem Off.mono {M:List Nat} (h:Off T Pr L w w') (hM : ∀x∈L,x∈M∨w.heap.size≤x):Off T Pr M w w' :=
 ⟨h.os,h.tape,h.output,h.size,fun k hk h1 h2=>h.block k hk (fun hm=>(hM k hm).elim h1 (fun h3=>absurd hk (Nat.not_lt.2 h3))) h2⟩
theorem Off.below (h:Off T Pr L w w') {B:Nat} (hP : ∀k,k<B→Pr k) (hL : ∀x∈L,B≤x) (hB:B≤w.heap.size):Below B w w' :=
 ⟨h.os,h.tape,h.output,h.size,fun k hk=>h.block k (Nat.lt_of_lt_of_le hk hB) (fun hm=>absurd (hL k hm) (Nat.not_le.2 hk)) (.inl (hP k hk))⟩
theorem Off.rowV {g:Nat} {U:TypeId} {vs:List Value} (h:Off T Pr L w w') (k:RowV w g U vs) (hg:g∉L) (hU:T U=false):RowV w' g U vs :=
 (h.block g k.lt hg (.inr fun cs t fr e=>by rw [show w.heap[g]?=some (.cells vs.toArray U (0,0)) from k] at e; cases e; exact hU)).trans k
end
structure Calm (s:Dsk.St):Prop where
 gone:s.gone=false
 armed:s.armed=false
def DIs (Pr:Nat→Prop) (w:World) (a:Nat) (s:Dsk.St):Prop := ∃bb bc wv,Dsk.At w 0 a bb bc wv s ∧ ¬Pr a ∧ ¬Pr bb ∧ ∀k,wv.ownBlock=some k → ¬Pr k
section
variable {Pr:Nat→Prop} {w w':World} {a:Nat} {s:Dsk.St}
theorem DIs.is (h:DIs Pr w a s):Dsk.Is w 0 a s:=by obtain ⟨bb,bc,wv,h,_⟩:=h; exact ⟨bb,bc,wv,h⟩
theorem DIs.ok (h:DIs Pr w a s):s.Ok:=h.is.ok
theorem DIs.keep (h:DIs Pr w a s) (k : ∀(j:Nat) cs t fr,w.heap[j]?=some (.cells cs t fr)→dT t=true→w'.heap[j]?=w.heap[j]?):DIs Pr w' a s:=by
 obtain ⟨bb,bc,wv,h,r⟩:=h
 exact ⟨bb,bc,wv,h.same fun j cs t fr _ _ e ht=>k j cs t fr e ht,r⟩
theorem DIs.below (h:DIs Pr w a s) (k:Below w.heap.size w w'):DIs Pr w' a s:=h.keep fun j cs t fr e _=>k.block j (lt_of_heap e)
theorem DIs.butL {L:List Nat} (h:DIs Pr w a s) (k:ButL w w' L) (hL : ∀x∈L,∀cs t fr,w.heap[x]?=some (.cells cs t fr)→dT t=false):DIs Pr w' a s :=
 h.keep fun j cs t fr e ht=>k.block j (lt_of_heap e) fun hm=>by have:=hL j hm cs t fr e; rw [ht] at this; cases this
theorem DIs.mono {Qr:Nat→Prop} (h:DIs Pr w a s) (hq : ∀k,Qr k→Pr k):DIs Qr w a s:=by
 obtain ⟨bb,bc,wv,h,h1,h2,h3⟩:=h
 exact ⟨bb,bc,wv,h,fun k=>h1 (hq _ k),fun k=>h2 (hq _ k),fun j hj k=>h3 j hj (hq _ k)⟩
end
theorem dwrite {Pr:Nat→Prop} {w:World} {a:Nat} {s:Dsk.St} (h:DIs Pr w a s) (hc:Calm s) (hP : ∀k,Pr k→k<w.heap.size) (hfew:s.W.length<1000000) (p:Nat) (hp:p<s.n) (ba:Option Addr) (bcap:Nat) (bs:List UInt8) (hl:bs.length=128) (hb : ∀w',Off dT Pr [] w w'→Oct.Told w' ba bs) :
  Calls Tryz.prog 46 #[.pointer (some ⟨a,0,none⟩),.int .i64 (p:Int),.slice ba 128 bcap] w fun e w'=>e = .returned (.int .i64 0)∧DIs Pr w' a (s.wrote p bs)∧Off dT Pr [] w w':=by
 obtain ⟨bb,bc,wv,h,h1,h2,h3⟩:=h
 have hO : ∀w',Dsk.TurnO 0 a wv w w'→Off dT Pr [] w w':=fun w' t=>⟨t.t.os,t.t.tape,t.t.output,t.t.size,fun k hk _ hc=>by
  rcases hc with hc | hc
  ·exact t.block k hk (fun e=>h1 (e▸hc)) fun e=>h3 k e hc
  ·exact t.t.block k hk (.inr hc)⟩
 refine (Dsk.write_calm h hc.gone hc.armed hfew p hp ba bcap bs hl fun w' t=>hb w' (hO w' t)).mono fun e w' ⟨wv',he,ha,ht,hw⟩=>⟨he,⟨bb,bc,wv',ha,h1,h2,fun k hk => ?_⟩,hO w' ht⟩
 rcases hw k hk with hw | hw
 ·exact h3 k hw
 ·exact fun hpr=>absurd (hP k hpr) (Nat.not_lt.2 hw)
theorem dflush {Pr:Nat→Prop} {w:World} {a:Nat} {s:Dsk.St} (h:DIs Pr w a s) (hc:Calm s) :
  Calls Tryz.prog 162 #[.pointer (some ⟨a,0,none⟩)] w fun e w'=>e = .returned (.int .i64 0)∧DIs Pr w' a s.flushed∧Off dT Pr [] w w':=by
 obtain ⟨bb,bc,wv,h,h1,h2,h3⟩:=h
 refine (Dsk.flush_calm h hc.gone hc.armed).mono fun e w' ⟨he,ha,ht,ho⟩=>⟨he,⟨bb,bc,_,ha,h1,h2,fun k hk=>by cases hk⟩,⟨ht.os,ht.tape,ht.output,ht.size,fun k hk _ hc => ?_⟩⟩
 rcases hc with hc | hc
 ·exact ho.block k hk (fun e=>h1 (e▸hc)) (fun e=>h2 (e▸hc))
 ·exact ht.block k hk (.inr hc)
theorem Calm.wrote {s:Dsk.St} (h:Calm s) (p:Nat) (bs:List UInt8):Calm (s.wrote p bs):=⟨h.gone,h.armed⟩
theorem Calm.flushed {s:Dsk.St} (h:Calm s):Calm s.flushed:=by
 have e:s.flushed = { Dsk.laid s (fun _=>128) s.W.length with W := [] }:=by unfold Dsk.St.flushed; rw [Dsk.calm_spent h.gone h.armed]
 obtain ⟨_,_,h1,h2,_⟩:=Dsk.laid_frame s (fun _=>128) s.W.length
 rw [e]
 exact ⟨h1.trans h.gone,h2.trans h.armed⟩
theorem n_flushed {s:Dsk.St} (h:Calm s):s.flushed.n=s.n:=by
 unfold Dsk.St.flushed
 rw [Dsk.calm_spent h.gone h.armed]
 exact (Dsk.laid_frame s (fun _=>128) s.W.length).1
theorem w_flushed (s:Dsk.St):s.flushed.W = []:=rfl
theorem says_still {s:Dsk.St} (h:s.W = []) (p:Nat):s.says p=s.stand p:=by unfold Dsk.St.says; rw [h,Dsk.last?_nil]; rfl
theorem says_wrote (s:Dsk.St) (p:Nat) (bs:List UInt8) (j:Nat):(s.wrote p bs).says j=if p=j then bs else s.says j:=by
 unfold Dsk.St.says Dsk.St.wrote
 rw [Dsk.last?_snoc]
 split <;> rfl
end Go.Proofs.YtogchamogbendaaGreat.Bs
namespace Go.Proofs.YtogchamogbendaaGreat.Bs
open Go.RowKit Oct Mv Tl Pk Pl Go.Maps
open Dsk (dT)
open Su (Sup nth scells length_scells scells_at scell)
structure BS where
 q:Q
 l1:List Nat
 l2:List Nat
 kept:Sup
 now:Sup
 fr:Nat→Option (List UInt8)
 D:Dsk.St
def BS.n (x:BS):Nat:=x.q.s.n
structure Adr where
 b:Nat
 ta:Nat
 cb:Nat
 mb:Nat
 c:Nat
 p:Nat
 fm:Nat
 d:Nat
def Adr.list (A:Adr):List Nat := [A.b,A.cb,A.mb,A.p,A.fm]
def bcells (A:Adr) (n m s1 d1 s2 d2:Nat) (kept now:Sup):List Value :=
 [.pointer (some ⟨A.d,0,none⟩),.pointer (some ⟨A.ta,0,none⟩),.pointer (some ⟨A.p,0,none⟩),.slice (some ⟨s1,0,none⟩) n d1,.slice (some ⟨s2,0,none⟩) m d2]++(scells kept++(scells now ++ [.map (some A.fm),.bool false,.pointer (some ⟨A.b,0,none⟩)]))
section
variable (A:Adr) (n m s1 d1 s2 d2:Nat) (kept now:Sup)
theorem length_bcells:(bcells A n m s1 d1 s2 d2 kept now).length=44:=by simp [bcells,length_scells]
theorem bc0:(bcells A n m s1 d1 s2 d2 kept now)[0]?=some (.pointer (some ⟨A.d,0,none⟩)):=rfl
theorem bc2:(bcells A n m s1 d1 s2 d2 kept now)[2]?=some (.pointer (some ⟨A.p,0,none⟩)):=rfl
theorem bcn (j:Nat) (h:j<18):(bcells A n m s1 d1 s2 d2 kept now)[23+j]?=some (scell j (nth now j)):=by
 unfold bcells
 rw [List.getElem?_append_right (by simp; omega),List.getElem?_append_right (by rw [length_scells]; simp; omega),List.getElem?_append_left (by rw [length_scells,length_scells]; simp; omega)]
 rw [length_scells,show 23+j - [Value.pointer (some ⟨A.d,0,none⟩),.pointer (some ⟨A.ta,0,none⟩),.pointer (some ⟨A.p,0,none⟩),.slice (some ⟨s1,0,none⟩) n d1,.slice (some ⟨s2,0,none⟩) m d2].length-18=j by simp; omega]
 exact scells_at now j h
theorem bct (j:Nat):(bcells A n m s1 d1 s2 d2 kept now)[41+j]? = [Value.map (some A.fm),.bool false,.pointer (some ⟨A.b,0,none⟩)][j]?:=by
 unfold bcells
 rw [List.getElem?_append_right (by simp; omega),List.getElem?_append_right (by rw [length_scells]; simp; omega),List.getElem?_append_right (by rw [length_scells,length_scells]; simp; omega)]
 rw [length_scells,length_scells,show 41+j - [Value.pointer (some ⟨A.d,0,none⟩),.pointer (some ⟨A.ta,0,none⟩),.pointer (some ⟨A.p,0,none⟩),.slice (some ⟨s1,0,none⟩) n d1,.slice (some ⟨s2,0,none⟩) m d2].length-18-18=j by simp; omega]
theorem bc41:(bcells A n m s1 d1 s2 d2 kept now)[41]?=some (.map (some A.fm)):=bct A n m s1 d1 s2 d2 kept now 0
theorem bc42:(bcells A n m s1 d1 s2 d2 kept now)[42]?=some (.bool false):=bct A n m s1 d1 s2 d2 kept now 1
theorem bc43:(bcells A n m s1 d1 s2 d2 kept now)[43]?=some (.pointer (some ⟨A.b,0,none⟩)):=bct A n m s1 d1 s2 d2 kept now 2
end
def sliceR:Value→Option (DataW Unit×List MemPlace)
 | .slice (some ⟨g,0,none⟩) 128 c=>some (.agg [.lit (.int .i64 (g:Int)),.lit (.int .i64 (c:Int))],[])
 | .slice none 0 0=>some (.agg [],[])
 | _=>none
def datS (g c:Nat):DataW Unit := .agg [.lit (.int .i64 (g:Int)),.lit (.int .i64 (c:Int))]
theorem sliceR_mk (g c:Nat):sliceR (.slice (some ⟨g,0,none⟩) 128 c)=some (datS g c,[]):=rfl
theorem datS_inj {g c g' c':Nat} (h:datS g c=datS g' c'):g=g'∧c=c':=by
 simp only [datS,DataW.agg.injEq,List.cons.injEq,DataW.lit.injEq,Lit.int.injEq,true_and,and_true] at h
 omega
theorem sliceR_inv {v:Value} {z:DataW Unit×List MemPlace} (h:sliceR v=some z):(∃g c,v = .slice (some ⟨g,0,none⟩) 128 c∧z=(datS g c,[]))∨(v = .slice none 0 0∧z=(.agg [],[])):=by
 unfold sliceR at h
 split at h
 ·rename_i g c
  exact .inl ⟨g,c,rfl,(Option.some.inj h).symm⟩
 ·exact .inr ⟨rfl,(Option.some.inj h).symm⟩
 ·cases h
theorem sliceR_one {v v':Value} {d:DataW Unit} {p p':List MemPlace} (h:sliceR v=some (d,p)) (k:sliceR v'=some (d,p')):v=v':=by
 rcases sliceR_inv h with ⟨g,c,rfl,e⟩ | ⟨rfl,e⟩ <;> rcases sliceR_inv k with ⟨g',c',rfl,e'⟩ | ⟨rfl,e'⟩
 ·have e1:d=datS g c:=congrArg Prod.fst e
  have e2:d=datS g' c':=congrArg Prod.fst e'
  obtain ⟨rfl,rfl⟩:=datS_inj (e1.symm.trans e2)
  rfl
 ·have e1:d=datS g c:=congrArg Prod.fst e
  have e2:d = .agg []:=congrArg Prod.fst e'
  rw [e1] at e2
  simp [datS] at e2
 ·have e1:d = .agg []:=congrArg Prod.fst e
  have e2:d=datS g' c':=congrArg Prod.fst e'
  rw [e1] at e2
  simp [datS] at e2
 ·rfl
theorem sliceR_agg {v:Value} {g c:Nat} {p:List MemPlace} (h:sliceR v=some (datS g c,p)):v = .slice (some ⟨g,0,none⟩) 128 c :=
 (sliceR_one (p' := []) h (sliceR_mk g c))
def Byt (w:World) (g:Nat) (bs:List UInt8):Prop:=Has w g 0 bs ∧ ∃cs fr,w.heap[g]?=some (.cells cs 5 fr)
structure FSays (w:World) (D:DataW Unit) (fr:Nat→Option (List UInt8)):Prop where
 has : ∀k,Maps.has D k=true ↔ ∃i,k=key i∧(fr i).isSome=true
 at' : ∀i bs,fr i=some bs→i≤4096∧bs.length=128 ∧ ∃g c,(∀z,D.atKey (key i) z=datS g c)∧Byt w g bs∧128≤c∧c≤maxLen
def FMap (w:World) (fm:Nat) (fr:Nat→Option (List UInt8)):Prop := ∃nn D,w.ownsMap Tryz.prog 3 sliceR fm nn D∧FSays w D fr
theorem Byt.told {w:World} {g:Nat} {bs:List UInt8} (h:Byt w g bs):Oct.Told w (some ⟨g,0,none⟩) bs:=by
 exact h.1.told
theorem Byt.block {w w':World} {g:Nat} {bs:List UInt8} (h:Byt w g bs) (k : ∀cs fr,w.heap[g]?=some (.cells cs 5 fr)→w'.heap[g]?=w.heap[g]?):Byt w' g bs:=by
 obtain ⟨h1,cs,fr,h2⟩:=h
 have e:=k cs fr h2
 exact ⟨fun i hi=>by have:=h1 i hi; unfold World.cell? at this ⊢; rw [e]; exact this,cs,fr,e.trans h2⟩
theorem Byt.lt {w:World} {g:Nat} {bs:List UInt8} (h:Byt w g bs):g<w.heap.size:=by
 obtain ⟨_,cs,fr,h2⟩:=h
 exact lt_of_heap h2
theorem Byt.below {w w':World} {g B:Nat} {bs:List UInt8} (h:Byt w g bs) (hg:g<B) (k:Below B w w'):Byt w' g bs:=h.block fun _ _ _=>k.block g hg
theorem Byt.off {w w':World} {g:Nat} {bs:List UInt8} {T:TypeId→Bool} {Pr:Nat→Prop} {L:List Nat} (h:Byt w g bs) (k:Off T Pr L w w') (hg:g∉L) (hT:T 5 = false):Byt w' g bs :=
 h.block fun cs fr e=>k.block g (lt_of_heap e) hg (.inr fun cs' t' fr' e'=>by rw [e] at e'; cases e'; exact hT)
theorem FMap.lt {w:World} {fm:Nat} {fr:Nat→Option (List UInt8)} (h:FMap w fm fr):fm<w.heap.size:=by
 obtain ⟨nn,D,⟨es,cl,h,_⟩,_⟩:=h
 exact lt_of_heap h
theorem FMap.keep {w w':World} {fm:Nat} {fr:Nat→Option (List UInt8)} (h:FMap w fm fr) (k:w'.heap[fm]?=w.heap[fm]?) (kb : ∀g bs,Byt w g bs→Byt w' g bs):FMap w' fm fr:=by
 obtain ⟨nn,D,⟨es,cl,h1,h2⟩,h3⟩:=h
 refine ⟨nn,D,⟨es,cl,k.trans h1,h2⟩,h3.has,fun i bs hi => ?_⟩
 obtain ⟨h4,h5,g,c,h6,h7,h8⟩:=h3.at' i bs hi
 exact ⟨h4,h5,g,c,h6,kb g bs h7,h8⟩
structure BAt (Pr:Nat→Prop) (w:World) (A:Adr) (x:BS):Prop where
 row : ∃s1 d1 s2 d2,RowV w A.b 72 (bcells A x.l1.length x.l2.length s1 d1 s2 d2 x.kept x.now)∧(∃sp,RowV w s1 3 (ints x.l1++sp)) ∧ ∃sp,RowV w s2 3 (ints x.l2++sp)
 pat:PAt w A.p A.ta A.cb A.mb A.c x.q
 fm:FMap w A.fm x.fr
 dk:DIs Pr w A.d x.D
 ne:A.mb≠A.fm
 np : ∀k∈A.list,¬Pr k
 lt : ∀k,Pr k→k<w.heap.size
section
variable {Pr:Nat→Prop} {w w':World} {A:Adr} {x:BS}
theorem BAt.keep (h:BAt Pr w A x) (hs:w.heap.size≤w'.heap.size) (kl : ∀k∈A.list,w'.heap[k]?=w.heap[k]?) (kt : ∀(j:Nat) cs t fr,w.heap[j]?=some (.cells cs t fr)→(t = 3 ∨ t = 5 ∨ t = 246 ∨ dT t=true)→w'.heap[j]?=w.heap[j]?):BAt Pr w' A x where
 row:=by
  obtain ⟨s1,d1,s2,d2,h1,h2,h3⟩:=h.row
  exact ⟨s1,d1,s2,d2,h1.block (kl _ (by simp [Adr.list])),h2.imp fun _ k=>k.block (kt _ _ _ _ k (.inl rfl)),h3.imp fun _ k=>k.block (kt _ _ _ _ k (.inl rfl))⟩
 pat:=h.pat.blocks (kl _ (by simp [Adr.list])) (kt _ _ _ _ h.pat.tally.row (.inr (.inr (.inl rfl)))) (kl _ (by simp [Adr.list])) (kl _ (by simp [Adr.list]))
 fm:=h.fm.keep (kl _ (by simp [Adr.list])) fun g bs hb=>hb.block fun cs fr e=>kt _ _ _ _ e (.inr (.inl rfl))
 dk:=h.dk.keep fun j cs t fr e ht=>kt j cs t fr e (.inr (.inr (.inr ht)))
 ne:=h.ne
 np:=h.np
 lt:=fun k hk=>Nat.lt_of_lt_of_le (h.lt k hk) hs
theorem BAt.list_lt (h:BAt Pr w A x) : ∀k∈A.list,k<w.heap.size:=by
 intro k hk
 obtain ⟨s1,d1,s2,d2,h1,_⟩:=h.row
 simp only [Adr.list,List.mem_cons,List.not_mem_nil,or_false] at hk
 rcases hk with rfl | rfl | rfl | rfl | rfl
 ·exact h1.lt
 ·exact h.pat.tally.cb_lt
 ·exact h.pat.tally.mp.lt
 ·exact h.pat.row.lt
 ·exact h.fm.lt
theorem BAt.below (h:BAt Pr w A x) (k:Below w.heap.size w w'):BAt Pr w' A x :=
 h.keep k.size (fun j hj=>k.block j (h.list_lt j hj)) fun j cs t fr e _=>k.block j (lt_of_heap e)
theorem BAt.size (h:BAt Pr w A x):A.b<w.heap.size:=h.list_lt _ (by simp [Adr.list])
theorem BAt.still (h:BAt Pr w A x) (k:Still w w'):BAt Pr w' A x:=h.below (k.below _)
theorem BAt.cells (h:BAt Pr w A x) : ∃s1 d1 s2 d2,RowV w A.b 72 (bcells A x.l1.length x.l2.length s1 d1 s2 d2 x.kept x.now):=by
 obtain ⟨s1,d1,s2,d2,h1,_⟩:=h.row
 exact ⟨s1,d1,s2,d2,h1⟩
theorem BAt.c0 (h:BAt Pr w A x):w.cell? ⟨A.b,0,none⟩=some (.pointer (some ⟨A.d,0,none⟩)):=by obtain ⟨_,_,_,_,h⟩:=h.cells; exact h.cellAt (bc0 ..)
theorem BAt.c2 (h:BAt Pr w A x):w.cell? ⟨A.b,2,none⟩=some (.pointer (some ⟨A.p,0,none⟩)):=by obtain ⟨_,_,_,_,h⟩:=h.cells; exact h.cellAt (bc2 ..)
theorem BAt.c41 (h:BAt Pr w A x):w.cell? ⟨A.b,41,none⟩=some (.map (some A.fm)):=by obtain ⟨_,_,_,_,h⟩:=h.cells; exact h.cellAt (bc41 ..)
theorem BAt.c42 (h:BAt Pr w A x):w.cell? ⟨A.b,42,none⟩=some (.bool false):=by obtain ⟨_,_,_,_,h⟩:=h.cells; exact h.cellAt (bc42 ..)
theorem BAt.c43 (h:BAt Pr w A x):w.cell? ⟨A.b,43,none⟩=some (.pointer (some ⟨A.b,0,none⟩)):=by obtain ⟨_,_,_,_,h⟩:=h.cells; exact h.cellAt (bc43 ..)
theorem BAt.blk (h:BAt Pr w A x):w.cell? ⟨A.b,24,none⟩=some (.int .u32 (nth x.now 1:Int)):=by obtain ⟨_,_,_,_,h⟩:=h.cells; exact h.cellAt (bcn _ _ _ _ _ _ _ _ _ 1 (by omega))
end
end Go.Proofs.YtogchamogbendaaGreat.Bs
namespace Go.Proofs.YtogchamogbendaaGreat.Bs
open Go.RowKit Oct Mv Tl Pk Pl Go.Maps
open Dsk (dT)
open Su (Sup nth scells)
theorem base_info:(Tryz.prog.info? 72).isSome=true:=by kernel_rfl
theorem beql_self (a:Nat) (w:World):(binOp .eql 24 (.pointer (some ⟨a,0,none⟩)) (.pointer (some ⟨a,0,none⟩))).run Tryz.prog w = .ok (.bool true) w:=by
 obtain ⟨j,hj⟩:=Option.isSome_iff_exists.1 base_info
 exact run_eql_ptr_same (P:=Tryz.prog) w ⟨a,0,none⟩ Tryz.underlying24 hj
theorem beql_nil (a:Addr) (w:World):(binOp .eql 24 (.pointer none) (.pointer (some a))).run Tryz.prog w = .ok (.bool false) w:=by
 have h : ∀d:Nat,(Op.equalIn (d+1) 24 (.pointer none) (.pointer (some a))).run Tryz.prog w = .ok false w:=fun d=>by
  simp [Op.equalIn,run_underlying Tryz.underlying24]
 simp only [binOp]
 simp [Op.equal,Op.maxDepth,h 9999]
theorem bmade_self (a:Nat) (w:World) (h:w.cell? ⟨a,43,none⟩=some (.pointer (some ⟨a,0,none⟩))) :
  Calls Tryz.prog 93 #[.pointer (some ⟨a,0,none⟩)] w fun e w'=>e = .returned (.bool true)∧w=w':=by
 have h1:=beql_self a w
 go_enter Tryz.func93,Tryz.ntmps93
 go_wp2
 go_ret
 exact ⟨rfl,rfl⟩
def BNay (w:World) (v:Value):Prop:=v = .pointer none ∨ ∃a,v = .pointer (some ⟨a,0,none⟩)∧w.cell? ⟨a,43,none⟩=some (.pointer none)
theorem bmade_nay (v:Value) (w:World) (h:BNay w v) :
  Calls Tryz.prog 93 #[v] w fun e w'=>e = .returned (.bool false)∧w=w':=by
 rcases h with rfl | ⟨a,rfl,hc⟩
 ·go_enter Tryz.func93,Tryz.ntmps93
  go_wp2
  go_ret
  exact ⟨rfl,rfl⟩
 ·have h1:=beql_nil ⟨a,0,none⟩ w
  go_enter Tryz.func93,Tryz.ntmps93
  go_wp2
  go_ret
  exact ⟨rfl,rfl⟩
theorem stop_at {Pr:Nat→Prop} {w:World} {A:Adr} {x:BS} (h:BAt Pr w A x) :
  Calls Tryz.prog 83 #[.pointer (some ⟨A.b,0,none⟩)] w fun e w'=>e = .returned (.int .i64 0)∧w=w':=by
 have c42:=h.c42
 have c43:=h.c43
 clear h
 go_enter Tryz.func83,Tryz.ntmps83
 go_wp2_with fail
 refine (bmade_self A.b _ c43).mono ?_
 rintro e w' ⟨rfl,rfl⟩
 go_wp2_with fail
 go_ret
 exact ⟨rfl,rfl⟩
theorem blocks_nay (v:Value) (w:World) (h:BNay w v) :
  Calls Tryz.prog 27 #[v] w fun e w'=>e = .returned (.int .i64 0)∧w=w':=by
 go_enter Tryz.func27,Tryz.ntmps27
 go_wp2_with fail
 refine (bmade_nay v _ h).mono ?_
 rintro e w' ⟨rfl,rfl⟩
 go_wp2_with fail
 go_ret
 exact ⟨rfl,rfl⟩
theorem blocks_at {Pr:Nat→Prop} {w:World} {A:Adr} {x:BS} (h:BAt Pr w A x) (hn:nth x.now 1≤4096) :
  Calls Tryz.prog 27 #[.pointer (some ⟨A.b,0,none⟩)] w fun e w'=>e = .returned (.int .i64 (nth x.now 1:Int))∧w=w':=by
 have c43:=h.c43
 have cg:=h.blk
 clear h
 go_enter Tryz.func27,Tryz.ntmps27
 go_wp2_with fail
 refine (bmade_self A.b _ c43).mono ?_
 rintro e w' ⟨rfl,rfl⟩
 go_wp2_with fail
 go_ret
 exact ⟨rfl,rfl⟩
theorem has_yes {Pr:Nat→Prop} {w:World} {A:Adr} {x:BS} (h:BAt Pr w A x) (hn:nth x.now 1≤4096) (i:Int) (h0:0≤i) (h1:i<(nth x.now 1:Int)) :
  Calls Tryz.prog 103 #[.pointer (some ⟨A.b,0,none⟩),.int .i64 i] w fun e w'=>e = .returned (.bool true)∧w=w':=by
 have H:=Lib.hid h
 clear h
 go_enter Tryz.func103,Tryz.ntmps103
 go_wp2_with fail
 refine (blocks_at H.out hn).mono ?_
 rintro e w' ⟨rfl,rfl⟩
 go_wp2_with fail
 go_ret
 exact ⟨rfl,rfl⟩
set_option maxHeartbeats 1000000 in
theorem room_at {Pr:Nat→Prop} {w:World} {A:Adr} {x:BS} (h:BAt Pr w A x) (hn:nth x.now 1≤4096) (he:nth x.now 1=x.n) (hr:need x.n≤x.q.room) :
  Calls Tryz.prog 24 #[.pointer (some ⟨A.b,0,none⟩)] w fun e w'=>e = .returned (.int .i64 ((x.q.room-need x.n:Nat):Int))∧w=w':=by
 have c43:=h.c43
 have c2:=h.c2
 have H:=Lib.hid h
 have hq:x.q.room≤4096:=Nat.le_trans x.q.room_le h.pat.ok.s.hi
 clear h
 go_enter Tryz.func24,Tryz.ntmps24
 go_wp2_with fail
 refine (bmade_self A.b _ c43).mono ?_
 rintro e w' ⟨rfl,rfl⟩
 go_wp2_with fail
 refine (Pk.room_at H.out.pat).mono ?_
 rintro e w' ⟨rfl,rfl⟩
 go_wp2_with fail
 refine (blocks_at H.out hn).mono ?_
 rintro e w' ⟨rfl,rfl⟩
 go_wp2_with fail
 refine (need_eq x.n (by rw [← he]; exact hn) _).mono ?_
 rintro e w' ⟨rfl,rfl⟩
 clear he hn
 have e1:max 0 ((x.q.room:Int)-(need x.n:Int))=((x.q.room-need x.n:Nat):Int):=by omega
 go_wp2_with fail
 go_ret
 exact ⟨by first | rfl | (congr 2; omega),rfl⟩
end Go.Proofs.YtogchamogbendaaGreat.Bs
namespace Go.Proofs.YtogchamogbendaaGreat.Bs
open Go.RowKit Oct Mv Tl Pk Pl Go.Maps Go.ChangeMaps
open Dsk (dT)
open Su (Sup nth scells)
theorem zero_bytes (w:World):(zeroValue 45).run Tryz.prog w = .ok (.slice none 0 0) w:=by kernel_rfl
theorem fm_look {w:World} {fm:Nat} {fr:Nat→Option (List UInt8)} (h:FMap w fm fr) (i:Nat) (hi:i≤4096) :
  ∃v,(Instr.lookup 70 (.map (some fm)) (.int .i64 (i:Int)) true).run Tryz.prog w = .ok (.tuple #[v,.bool (fr i).isSome]) w ∧
   (Instr.lookup 70 (.map (some fm)) (.int .i64 (i:Int)) false).run Tryz.prog w = .ok v w ∧
   ∀bs,fr i=some bs→bs.length=128 ∧ ∃g c,v = .slice (some ⟨g,0,none⟩) 128 c∧Byt w g bs∧128≤c∧c≤maxLen:=by
 obtain ⟨nn,D,h,hs⟩:=h
 obtain ⟨v,p,hrun,hv⟩:=h.look_ok law Tryz.underlying70 (zero_bytes w) (zd := .agg []) (zp := []) rfl (key_of i hi)
 obtain ⟨v2,p2,hrun2,hv2⟩:=h.lookup law Tryz.underlying70 (zero_bytes w) (zd := .agg []) (zp := []) rfl (key_of i hi)
 have hh:Maps.has D (key i)=(fr i).isSome:=by
  rw [Bool.eq_iff_iff,hs.has]
  exact ⟨fun ⟨j,hj,h1⟩=>by rw [key_inj hj]; exact h1,fun h1=>⟨i,rfl,h1⟩⟩
 have e:v2=v:=sliceR_one hv2 hv
 subst e
 rw [hh] at hrun
 refine ⟨v2,hrun,hrun2,fun bs hb => ?_⟩
 obtain ⟨_,h2,g,c,h3,h4,h5⟩:=hs.at' i bs hb
 rw [h3] at hv
 exact ⟨h2,g,c,sliceR_agg hv,h4,h5⟩
def upd (fr:Nat→Option (List UInt8)) (i:Nat) (o:Option (List UInt8)):Nat→Option (List UInt8):=fun j=>if j=i then o else fr j
theorem butL_map {w w':World} {b:Nat} (h:w.mapTurned w' b):ButL w w' [b]:=ButL.grown h.grown
theorem Byt.but {w w':World} {g fm:Nat} {bs:List UInt8} {es:Array MapEntry} {cl:Nat} (h:Byt w g bs) (k:ButL w w' [fm]) (hm:w.heap[fm]?=some (.map es cl)):Byt w' g bs :=
 h.block fun cs fr e=>k.block g (lt_of_heap e) (by
  intro hg
  have:g=fm:=by simpa using hg
  subst this
  rw [e] at hm
  cases hm)
theorem own_map {w:World} {fm nn:Nat} {D:DataW Unit} (h:w.ownsMap Tryz.prog 3 sliceR fm nn D) : ∃es cl,w.heap[fm]?=some (.map es cl):=by
 obtain ⟨es,cl,h,_⟩:=h
 exact ⟨es,cl,h⟩
theorem fr_perm {w:World} {fm nn:Nat} {D:DataW Unit} (h:w.ownsMap Tryz.prog 3 sliceR fm nn D):w.ownsMap Tryz.prog 3 sliceR fm (Maps.size D) D:=by
 obtain ⟨es,cl,h1,h2,h3,rfl⟩:=h
 exact ⟨es,cl,h1,h2,by simp [Maps.size,length_sorted],rfl⟩
def frL (fr:Nat→Option (List UInt8)):List Nat:=(List.range 4097).filter fun i=>(fr i).isSome
theorem mem_frL {fr:Nat→Option (List UInt8)} {i:Nat}:i∈frL fr↔i≤4096∧(fr i).isSome=true:=by
 unfold frL
 rw [List.mem_filter,List.mem_range]
 exact ⟨fun h=>⟨by omega,h.2⟩,fun h=>⟨by omega,h.2⟩⟩
theorem fr_keys {w:World} {fm nn:Nat} {D:DataW Unit} {fr:Nat→Option (List UInt8)} (h:w.ownsMap Tryz.prog 3 sliceR fm nn D) (hs:FSays w D fr):((frL fr).map fun i:Nat=>(i:Int)).Perm (intKeys D):=by
 refine CollectedI.perm (left:=fun _=>false) (k := 3) ⟨?_,fun x => ?_⟩ h law Tryz.underlying3 (fun _=>rfl)
 ·unfold frL
  refine List.pairwise_map.2 (List.Pairwise.imp (fun {a b} (h:a<b) => ?_) (List.pairwise_lt_range.filter _))
  omega
 ·simp only [List.mem_map,and_true]
  rw [hs.has]
  constructor
  ·rintro ⟨i,hi,rfl⟩
   exact ⟨i,rfl,(mem_frL.1 hi).2⟩
  ·rintro ⟨i,e,hm⟩
   simp only [key,Lit.int.injEq,true_and] at e
   obtain ⟨bs,hb⟩:=Option.isSome_iff_exists.1 hm
   exact ⟨i,mem_frL.2 ⟨(hs.at' i bs hb).1,hm⟩,e.symm⟩
theorem fr_few {w:World} {fm nn:Nat} {D:DataW Unit} {fr:Nat→Option (List UInt8)} (h:w.ownsMap Tryz.prog 3 sliceR fm nn D) (hs:FSays w D fr):Maps.size D≤4097:=by
 have:=(fr_keys h hs).length_eq
 obtain ⟨es,rfl⟩:=h.isMap
 rw [List.length_map] at this
 have e1:Maps.size (DataW.map es:DataW Unit)=(frL fr).length:=by
  rw [this]
  simp [Maps.size,intKeys]
 rw [e1]
 unfold frL
 have:=List.length_filter_le (fun i=>(fr i).isSome) (List.range 4097)
 rwa [List.length_range] at this
theorem fm_put {w:World} {fm:Nat} {fr:Nat→Option (List UInt8)} (h:FMap w fm fr) (i:Nat) (hi:i≤4096) (bs:List UInt8) (hl:bs.length=128) (g c:Nat) (hb:Byt w g bs) (h1:128≤c) (h2:c≤maxLen) :
  ∃w',(Instr.mapUpdate 70 (.map (some fm)) (.int .i64 (i:Int)) (.slice (some ⟨g,0,none⟩) 128 c)).run Tryz.prog w = .ok () w'∧FMap w' fm (upd fr i (some bs))∧ButL w w' [fm]:=by
 obtain ⟨nn,D,h,hs⟩:=h
 obtain ⟨es,cl,hm⟩:=own_map h
 have hfew:=fr_few h hs
 obtain ⟨w',hrun,ho,ht⟩:=(fr_perm h).store law Tryz.underlying70 (by unfold maxLen; omega) (key_of i hi) (sliceR_mk g c)
 have kb:=butL_map ht
 refine ⟨w',hrun,⟨_,_,ho,?_,?_⟩,kb⟩
 ·intro k
  by_cases e:k=key i
  ·subst e
   rw [has_put_same h.isMap (key_lit i)]
   exact ⟨fun _=>⟨i,rfl,by simp [upd]⟩,fun _=>rfl⟩
  ·rw [has_put_other e,hs.has]
   exact ⟨fun ⟨j,hj,h3⟩=>⟨j,hj,by unfold upd; rw [if_neg (fun e2=>e (by rw [hj,e2]))]; exact h3⟩,fun ⟨j,hj,h3⟩=>⟨j,hj,by unfold upd at h3; rwa [if_neg (fun e2=>e (by rw [hj,e2]))] at h3⟩⟩
 ·intro j bs' hj
  unfold upd at hj
  by_cases e:j=i
  ·subst e
   rw [if_pos rfl] at hj
   cases hj
   exact ⟨hi,hl,g,c,fun z=>atKey_put_same h.isMap (key_lit j) _ z,hb.but kb hm,h1,h2⟩
  ·rw [if_neg e] at hj
   obtain ⟨h3,h4,g',c',h5,h6,h7⟩:=hs.at' j bs' hj
   exact ⟨h3,h4,g',c',fun z=>by rw [atKey_put_other (fun e2=>e (key_inj e2))]; exact h5 z,h6.but kb hm,h7⟩
theorem fm_clear {w:World} {fm:Nat} {fr:Nat→Option (List UInt8)} (h:FMap w fm fr) :
  ∃w',(∀ty,(Builtin.clear_ #[70] ty #[.map (some fm)]).run Tryz.prog w = .ok (.tuple #[]) w')∧FMap w' fm (fun _=>none)∧ButL w w' [fm]:=by
 obtain ⟨nn,D,⟨es,clock,hb,F,hs,rfl⟩,_⟩:=h
 refine ⟨setBlock w fm (.map #[] clock),fun ty => ?_,⟨0,.map [],⟨#[],clock,heap_setBlock_same hb _,⟨by simp,MapKept.stamped_empty clock,by simp⟩,Nat.le_refl _,rfl⟩,?_,?_⟩,butL_map ⟨es,clock,#[],clock,hb,rfl⟩⟩
 ·simp [Builtin.clear_,run_underlying Tryz.underlying70,MapKept.run_getObj_map hb,MapKept.run_setObj_map _ hb,Result.andThen,setBlock]
 ·intro k
  exact ⟨fun h=>(by cases h),fun ⟨j,_,h⟩=>(by cases h)⟩
 ·intro i bs h
  cases h
theorem fm_made (w:World):FMap (w.alloc (.map #[] 0)) w.heap.size (fun _=>none) :=
 ⟨0,.map [],World.ownsMap_made w _ _ _,fun k=>⟨fun h=>(by cases h),fun ⟨j,_,h⟩=>(by cases h)⟩,fun i bs h=>by cases h⟩
theorem own_byt {w:World} {base g n c:Nat} {bs:List UInt8} (h:Oct.Own w base (.slice (some ⟨g,0,none⟩) n c) bs):Byt w g bs:=by
 rcases h.2 with ⟨h0,_⟩ | ⟨g',cap,cur,hv,_,hg,_,_,_,ht⟩
 ·cases h0
 ·cases hv
  exact ⟨Oct.Own.has h,_,_,hg⟩
theorem eql_bytes (x:Addr) (n c:Nat) (w:World):(binOp .eql 45 (.slice (some x) n c) (.slice none 0 0)).run Tryz.prog w = .ok (.bool false) w:=by
 have h : ∀d:Nat,(Op.equalIn (d+1) 45 (.slice (some x) n c) (.slice none 0 0)).run Tryz.prog w = .ok false w:=fun d=>by
  simp [Op.equalIn,run_underlying Tryz.underlying45]
 simp only [binOp]
 simp [Op.equal,Op.maxDepth,h 9999]
def CloneOut (w:World) (bs:List UInt8) (e:Ending) (w':World):Prop := ∃g c,e = .returned (.slice (some ⟨g,0,none⟩) 128 c)∧Byt w' g bs∧128≤c∧c≤maxLen∧w.heap.size≤g∧Below w.heap.size w w'
theorem clone_any {w:World} {A:Option Addr} {c:Nat} {bs:List UInt8} (hl:bs.length=128) (hT:Oct.Told w A bs) :
  Calls Tryz.prog 97 #[.slice A 128 c] w (CloneOut w bs):=by
 obtain ⟨b,o,rfl,hH⟩ : ∃b o,A=some ⟨b,o,none⟩∧Has w b o bs:=by
  rcases hT with rfl | h
  ·cases hl
  ·exact h
 obtain ⟨v',w',hrun,ho,hb⟩:=run_append_bytes (w.alloc (.cells #[] 5)) 45 w.heap.size _ [] bs (own_none w) (some ⟨b,o,none⟩) 128 c hl (Told.alloc hH.told _) (fun h=>by cases h) (by simp) (alloc_base w _)
 obtain ⟨A',cap,rfl,_,h1,h2,h3⟩:=ho.slice
 obtain ⟨g,rfl,h4,h5,_⟩:=h3 (by intro e; rw [List.nil_append] at e; rw [e] at hl; cases hl)
 have HO:=Lib.hid (own_byt ho)
 rw [List.nil_append,hl] at hrun h1
 rw [List.nil_append] at HO
 have HB:=Lib.hid (show Below w.heap.size w w' from ((Below.refl w.heap.size w).alloc (Nat.le_refl _) (.cells #[] 5)).trans hb)
 have heq:=eql_bytes ⟨b,o,none⟩ 128 c w
 clear ho h3 hT hH hb
 go_enter Tryz.func97,Tryz.ntmps97
 go_wp2_with (at_builtin; refine wpList_append_run rfl (.tmp 5) (.tmp 6) 45 rfl _ _ rfl rfl _ w' hrun ?_)
 go_ret
 exact ⟨g,cap,rfl,HO.out,h1,h2,h4,HB.out⟩
end Go.Proofs.YtogchamogbendaaGreat.Bs
namespace Go.Proofs.YtogchamogbendaaGreat.Bs
open Lib (hid)
open Go.RowKit Oct Mv Tl Pk Pl Go.Maps
def kv (k:IntKind) (l:List Nat):List Value:=l.map fun n:Nat => .int k (n:Int)
theorem length_kv (k:IntKind) (l:List Nat):(kv k l).length=l.length:=by simp [kv]
theorem kv_at (k:IntKind) (l:List Nat) {i:Nat} (h:i<l.length):(kv k l)[i]?=some (.int k ((l.getD i 0:Nat):Int)):=by
 simp [kv,h]
theorem kv_ints (l:List Nat):kv .i64 l=ints l:=rfl
theorem kv_nums (l:List UInt16):kv .u16 (l.map UInt16.toNat)=nums l:=by simp [kv,nums,Tl.num]
theorem kv_told {w:World} {A:Option Addr} {k:IntKind} {l:List Nat} (h:ToldV w A (kv k l)) {j:Nat} (hj:j<l.length) : ∃b o,A=some ⟨b,o,none⟩∧b<w.heap.size∧w.cell? ⟨b,o+j,none⟩=some (.int k ((l.getD j 0:Nat):Int)):=by
 obtain ⟨b,o,ha,h2⟩:=h.has (by rw [length_kv]; omega)
 exact ⟨b,o,ha,h2.lt (by rw [length_kv]; omega),h2.cellAt (kv_at k l hj)⟩
def upTo (l:List Nat) (k:Nat):List Nat:=l.take k++List.replicate (l.length-k) 0
theorem length_upTo (l:List Nat) {k:Nat} (h:k≤l.length):(upTo l k).length=l.length:=by simp [upTo]; omega
theorem upTo_zero (l:List Nat):upTo l 0=List.replicate l.length 0:=by simp [upTo]
theorem upTo_all (l:List Nat):upTo l l.length=l:=by
 unfold upTo
 rw [Nat.sub_self,List.take_length]
 exact List.append_nil l
theorem upTo_set (l:List Nat) {k:Nat} (h:k<l.length):(upTo l k).set k (l.getD k 0)=upTo l (k+1):=by
 unfold upTo
 rw [List.set_append_right _ _ (by rw [List.length_take]; omega)]
 have e1:l.length-k=(l.length-(k+1))+1:=by omega
 rw [e1,List.replicate_succ,List.length_take,Nat.min_eq_left (by omega),Nat.sub_self,List.set_cons_zero]
 rw [List.take_add_one,List.getElem?_eq_getElem h,List.append_assoc,List.getD_eq_getElem?_getD,List.getElem?_eq_getElem h]
 rfl
theorem kv_set (k:IntKind) (l:List Nat) (i n:Nat):(kv k l).set i (.int k (n:Int))=kv k (l.set i n):=by simp [kv,List.map_set]
theorem mem_getD {l:List Nat} {i:Nat} (h:i<l.length):l.getD i 0∈l:=by
 rw [List.getD_eq_getElem?_getD,List.getElem?_eq_getElem h]
 exact List.getElem_mem h
theorem u32_info:(Tryz.prog.info? 66).map (fun i=>(i.zero,i.size,i.bytes))=some (some (.int .u32 0),1,4):=by kernel_rfl
theorem u16_info:(Tryz.prog.info? 34).map (fun i=>(i.zero,i.size,i.bytes))=some (some (.int .u16 0),1,2):=by kernel_rfl
theorem int_info:(Tryz.prog.info? 3).map (fun i=>(i.zero,i.size,i.bytes))=some (some (.int .i64 0),1,8):=by kernel_rfl
theorem made_kv (k:IntKind) (n:Nat):madeCells (Value.int k 0).cells n=(kv k (List.replicate n 0)).toArray:=by
 apply Array.ext
 ·simp [madeCells,kv,Value.cells]
 ·intro i h1 h2
  simp [madeCells,kv,Value.cells,Nat.mod_one]
theorem make_u32 (w:World) (n:Nat) (hn:n≤4096) :
  (Instr.makeSlice 225 (.int .i64 (n:Int)) (.int .i64 (n:Int))).run Tryz.prog w = .ok (.slice (some ⟨w.heap.size,0,none⟩) n n) (w.alloc (.cells (kv .u32 (List.replicate n 0)).toArray 66)):=by
 obtain ⟨i0,hi,hz0,hz1,hz2⟩:=info_parts u32_info
 have h:=run_make (P:=Tryz.prog) w 225 66 i0 _ Tryz.underlying225 hi hz0 .i64 .i64 n n (by omega) (by omega) (by rw [hz2]; omega) (by omega)
 rw [Int.toNat_natCast,made_kv,hz1,Nat.mul_one] at h
 exact h
theorem make_u16 (w:World) (n:Nat) (hn:n≤4096) :
  (Instr.makeSlice 134 (.int .i64 (n:Int)) (.int .i64 (n:Int))).run Tryz.prog w = .ok (.slice (some ⟨w.heap.size,0,none⟩) n n) (w.alloc (.cells (kv .u16 (List.replicate n 0)).toArray 34)):=by
 obtain ⟨i0,hi,hz0,hz1,hz2⟩:=info_parts u16_info
 have h:=run_make (P:=Tryz.prog) w 134 34 i0 _ Tryz.underlying134 hi hz0 .i64 .i64 n n (by omega) (by omega) (by rw [hz2]; omega) (by omega)
 rw [Int.toNat_natCast,made_kv,hz1,Nat.mul_one] at h
 exact h
theorem make_i64 (w:World) (n:Nat) (hn:n≤4096) :
  (Instr.makeSlice 51 (.int .i64 (n:Int)) (.int .i64 (n:Int))).run Tryz.prog w = .ok (.slice (some ⟨w.heap.size,0,none⟩) n n) (w.alloc (.cells (kv .i64 (List.replicate n 0)).toArray 3)):=by
 obtain ⟨i0,hi,hz0,hz1,hz2⟩:=info_parts int_info
 have h:=run_make (P:=Tryz.prog) w 51 3 i0 _ Tryz.underlying51 hi hz0 .i64 .i64 n n (by omega) (by omega) (by rw [hz2]; omega) (by omega)
 rw [Int.toNat_natCast,made_kv,hz1,Nat.mul_one] at h
 exact h
set_option maxHeartbeats 1000000 in
theorem as_int_uint32 {w:World} {A:Option Addr} {c:Nat} {l:List Nat} (h:ToldV w A (kv .u32 l)) (hl:l.length≤4096) (hb : ∀x∈l,x<4294967296) :
  Calls Tryz.prog 137 #[.slice A l.length c] w fun e w' => ∃g,e = .returned (.slice (some ⟨g,0,none⟩) l.length l.length)∧RowV w' g 3 (kv .i64 l)∧w.heap.size≤g∧Below w.heap.size w w':=by
 have H:=hid h
 have HBD:=hid hb
 have hmk:=make_i64 w l.length hl
 have hz:(w.alloc (.cells (kv .i64 (List.replicate l.length 0)).toArray 3)).heap.size=w.heap.size+1:=by simp
 have R1:=alloc_rowV w 3 (kv .i64 (List.replicate l.length 0))
 have B1:=(Below.refl w.heap.size w).alloc (Nat.le_refl _) (.cells (kv .i64 (List.replicate l.length 0)).toArray 3)
 rw [← upTo_zero] at hmk hz R1 B1
 generalize w.alloc (.cells (kv .i64 (upTo l 0)).toArray 3)=w1 at *
 have HR:=hid R1
 have HB:=hid B1
 obtain ⟨g,hg⟩ : ∃g,g=w.heap.size:=⟨_,rfl⟩
 rw [← hg] at hmk HR ⊢
 have HG:=hid hg
 have hl2:(l.length:Int)≤4096:=by omega
 clear h hb R1 B1 hz hg
 go_enter Tryz.func137,Tryz.ntmps137
 go_wp2_with fail
 clear hmk
 go_loopw [11] (fun i wr => ∃k:Nat,k≤l.length∧i = .int .i64 (k:Int)∧Hid (RowV wr g 3 (kv .i64 (upTo l k)))∧Hid (Below w.heap.size w wr)) (fun i _=>l.length-(Go.RowKit.intOf i).toNat)
 case atStart=>exact ⟨0,Nat.zero_le _,rfl,HR,HB⟩
 case round =>
  obtain ⟨k,hk,rfl,HRr,HBr⟩:=hrel
  by_cases hlt:k<l.length
  ·have hki:(k:Int)<(l.length:Int):=by omega
   have hge0:(0:Int)≤(k:Int):=by omega
   obtain ⟨b1,o1,rfl,hb1,hc1⟩:=kv_told H.out hlt
   have c1':wr.cell? ⟨b1,o1+k,none⟩=some (.int .u32 ((l.getD k 0:Nat):Int)):=(HBr.out.cell (p:=⟨b1,o1+k,none⟩) hb1).trans hc1
   have hbd:=HBD.out _ (mem_getD hlt)
   have HS:=hid (HRr.out.set k (.int .i64 ((l.getD k 0:Nat):Int)))
   rw [kv_set,upTo_set l hlt] at HS
   have fz:=HRr.out.free k
   have hc:=HRr.out.cellAt (i:=k) (kv_at .i64 (upTo l k) (by rw [length_upTo l (by omega)]; exact hlt))
   have HU:=hid (ButL.set wr g k (.int .i64 ((l.getD k 0:Nat):Int)))
   clear hc1
   generalize l.getD k 0=x at *
   have hx0:(0:Int)≤(x:Int):=by omega
   have hx1:(x:Int)<4294967296:=by omega
   have hw:IntKind.i64.wrap (x:Int)=(x:Int):=by simp [IntKind.wrap,IntKind.signed,IntKind.bits]; omega
   have hk63:(k:Int)<9223372036854775807:=by omega
   go_wp2_with fail
   exact ⟨⟨k+1,by omega,by go_num,HS,hid (HBr.out.trans (HU.out.below (by simp; have:=HG.out; omega) HBr.out.size))⟩,by simp [Go.RowKit.intOf]; omega⟩
  ·have hki : ¬(k:Int)<(l.length:Int):=by omega
   obtain rfl:k=l.length:=by omega
   go_wp2_with fail
   go_ret
   refine ⟨g,rfl,?_,by rw [HG.out]; exact Nat.le_refl _,by rw [HG.out]; exact HBr.out⟩
   have:=HRr.out
   rwa [upTo_all] at this
set_option maxHeartbeats 1000000 in
theorem as_int_uint16 {w:World} {A:Option Addr} {c:Nat} {l:List Nat} (h:ToldV w A (kv .u16 l)) (hl:l.length≤4096) (hb : ∀x∈l,x<65536) :
  Calls Tryz.prog 139 #[.slice A l.length c] w fun e w' => ∃g,e = .returned (.slice (some ⟨g,0,none⟩) l.length l.length)∧RowV w' g 3 (kv .i64 l)∧w.heap.size≤g∧Below w.heap.size w w':=by
 have H:=hid h
 have HBD:=hid hb
 have hmk:=make_i64 w l.length hl
 have hz:(w.alloc (.cells (kv .i64 (List.replicate l.length 0)).toArray 3)).heap.size=w.heap.size+1:=by simp
 have R1:=alloc_rowV w 3 (kv .i64 (List.replicate l.length 0))
 have B1:=(Below.refl w.heap.size w).alloc (Nat.le_refl _) (.cells (kv .i64 (List.replicate l.length 0)).toArray 3)
 rw [← upTo_zero] at hmk hz R1 B1
 generalize w.alloc (.cells (kv .i64 (upTo l 0)).toArray 3)=w1 at *
 have HR:=hid R1
 have HB:=hid B1
 obtain ⟨g,hg⟩ : ∃g,g=w.heap.size:=⟨_,rfl⟩
 rw [← hg] at hmk HR ⊢
 have HG:=hid hg
 have hl2:(l.length:Int)≤4096:=by omega
 clear h hb R1 B1 hz hg
 go_enter Tryz.func139,Tryz.ntmps139
 go_wp2_with fail
 clear hmk
 go_loopw [11] (fun i wr => ∃k:Nat,k≤l.length∧i = .int .i64 (k:Int)∧Hid (RowV wr g 3 (kv .i64 (upTo l k)))∧Hid (Below w.heap.size w wr)) (fun i _=>l.length-(Go.RowKit.intOf i).toNat)
 case atStart=>exact ⟨0,Nat.zero_le _,rfl,HR,HB⟩
 case round =>
  obtain ⟨k,hk,rfl,HRr,HBr⟩:=hrel
  by_cases hlt:k<l.length
  ·have hki:(k:Int)<(l.length:Int):=by omega
   have hge0:(0:Int)≤(k:Int):=by omega
   obtain ⟨b1,o1,rfl,hb1,hc1⟩:=kv_told H.out hlt
   have c1':wr.cell? ⟨b1,o1+k,none⟩=some (.int .u16 ((l.getD k 0:Nat):Int)):=(HBr.out.cell (p:=⟨b1,o1+k,none⟩) hb1).trans hc1
   have hbd:=HBD.out _ (mem_getD hlt)
   have HS:=hid (HRr.out.set k (.int .i64 ((l.getD k 0:Nat):Int)))
   rw [kv_set,upTo_set l hlt] at HS
   have fz:=HRr.out.free k
   have hc:=HRr.out.cellAt (i:=k) (kv_at .i64 (upTo l k) (by rw [length_upTo l (by omega)]; exact hlt))
   have HU:=hid (ButL.set wr g k (.int .i64 ((l.getD k 0:Nat):Int)))
   clear hc1
   generalize l.getD k 0=x at *
   have hx0:(0:Int)≤(x:Int):=by omega
   have hx1:(x:Int)<65536:=by omega
   have hw:IntKind.i64.wrap (x:Int)=(x:Int):=by simp [IntKind.wrap,IntKind.signed,IntKind.bits]; omega
   have hk63:(k:Int)<9223372036854775807:=by omega
   go_wp2_with fail
   exact ⟨⟨k+1,by omega,by go_num,HS,hid (HBr.out.trans (HU.out.below (by simp; have:=HG.out; omega) HBr.out.size))⟩,by simp [Go.RowKit.intOf]; omega⟩
  ·have hki : ¬(k:Int)<(l.length:Int):=by omega
   obtain rfl:k=l.length:=by omega
   go_wp2_with fail
   go_ret
   refine ⟨g,rfl,?_,by rw [HG.out]; exact Nat.le_refl _,by rw [HG.out]; exact HBr.out⟩
   have:=HRr.out
   rwa [upTo_all] at this
set_option maxHeartbeats 1000000 in
theorem as_uint32_int {w:World} {A:Option Addr} {c:Nat} {l:List Nat} (h:ToldV w A (kv .i64 l)) (hl:l.length≤4096) (hb : ∀x∈l,x<4294967296) :
  Calls Tryz.prog 146 #[.slice A l.length c] w fun e w' => ∃g,e = .returned (.slice (some ⟨g,0,none⟩) l.length l.length)∧RowV w' g 66 (kv .u32 l)∧w.heap.size≤g∧Below w.heap.size w w':=by
 have H:=hid h
 have HBD:=hid hb
 have hmk:=make_u32 w l.length hl
 have hz:(w.alloc (.cells (kv .u32 (List.replicate l.length 0)).toArray 66)).heap.size=w.heap.size+1:=by simp
 have R1:=alloc_rowV w 66 (kv .u32 (List.replicate l.length 0))
 have B1:=(Below.refl w.heap.size w).alloc (Nat.le_refl _) (.cells (kv .u32 (List.replicate l.length 0)).toArray 66)
 rw [← upTo_zero] at hmk hz R1 B1
 generalize w.alloc (.cells (kv .u32 (upTo l 0)).toArray 66)=w1 at *
 have HR:=hid R1
 have HB:=hid B1
 obtain ⟨g,hg⟩ : ∃g,g=w.heap.size:=⟨_,rfl⟩
 rw [← hg] at hmk HR ⊢
 have HG:=hid hg
 have hl2:(l.length:Int)≤4096:=by omega
 clear h hb R1 B1 hz hg
 go_enter Tryz.func146,Tryz.ntmps146
 go_wp2_with fail
 clear hmk
 go_loopw [11] (fun i wr => ∃k:Nat,k≤l.length∧i = .int .i64 (k:Int)∧Hid (RowV wr g 66 (kv .u32 (upTo l k)))∧Hid (Below w.heap.size w wr)) (fun i _=>l.length-(Go.RowKit.intOf i).toNat)
 case atStart=>exact ⟨0,Nat.zero_le _,rfl,HR,HB⟩
 case round =>
  obtain ⟨k,hk,rfl,HRr,HBr⟩:=hrel
  by_cases hlt:k<l.length
  ·have hki:(k:Int)<(l.length:Int):=by omega
   have hge0:(0:Int)≤(k:Int):=by omega
   obtain ⟨b1,o1,rfl,hb1,hc1⟩:=kv_told H.out hlt
   have c1':wr.cell? ⟨b1,o1+k,none⟩=some (.int .i64 ((l.getD k 0:Nat):Int)):=(HBr.out.cell (p:=⟨b1,o1+k,none⟩) hb1).trans hc1
   have hbd:=HBD.out _ (mem_getD hlt)
   have HS:=hid (HRr.out.set k (.int .u32 ((l.getD k 0:Nat):Int)))
   rw [kv_set,upTo_set l hlt] at HS
   have fz:=HRr.out.free k
   have hc:=HRr.out.cellAt (i:=k) (kv_at .u32 (upTo l k) (by rw [length_upTo l (by omega)]; exact hlt))
   have HU:=hid (ButL.set wr g k (.int .u32 ((l.getD k 0:Nat):Int)))
   clear hc1
   generalize l.getD k 0=x at *
   have hx0:(0:Int)≤(x:Int):=by omega
   have hx1:(x:Int)<4294967296:=by omega
   have hw:IntKind.u32.wrap (x:Int)=(x:Int):=by simp [IntKind.wrap,IntKind.signed,IntKind.bits]; omega
   have hk63:(k:Int)<9223372036854775807:=by omega
   go_wp2_with fail
   exact ⟨⟨k+1,by omega,by go_num,HS,hid (HBr.out.trans (HU.out.below (by simp; have:=HG.out; omega) HBr.out.size))⟩,by simp [Go.RowKit.intOf]; omega⟩
  ·have hki : ¬(k:Int)<(l.length:Int):=by omega
   obtain rfl:k=l.length:=by omega
   go_wp2_with fail
   go_ret
   refine ⟨g,rfl,?_,by rw [HG.out]; exact Nat.le_refl _,by rw [HG.out]; exact HBr.out⟩
   have:=HRr.out
   rwa [upTo_all] at this
set_option maxHeartbeats 1000000 in
theorem as_uint16_int {w:World} {A:Option Addr} {c:Nat} {l:List Nat} (h:ToldV w A (kv .i64 l)) (hl:l.length≤4096) (hb : ∀x∈l,x<65536) :
  Calls Tryz.prog 165 #[.slice A l.length c] w fun e w' => ∃g,e = .returned (.slice (some ⟨g,0,none⟩) l.length l.length)∧RowV w' g 34 (kv .u16 l)∧w.heap.size≤g∧Below w.heap.size w w':=by
 have H:=hid h
 have HBD:=hid hb
 have hmk:=make_u16 w l.length hl
 have hz:(w.alloc (.cells (kv .u16 (List.replicate l.length 0)).toArray 34)).heap.size=w.heap.size+1:=by simp
 have R1:=alloc_rowV w 34 (kv .u16 (List.replicate l.length 0))
 have B1:=(Below.refl w.heap.size w).alloc (Nat.le_refl _) (.cells (kv .u16 (List.replicate l.length 0)).toArray 34)
 rw [← upTo_zero] at hmk hz R1 B1
 generalize w.alloc (.cells (kv .u16 (upTo l 0)).toArray 34)=w1 at *
 have HR:=hid R1
 have HB:=hid B1
 obtain ⟨g,hg⟩ : ∃g,g=w.heap.size:=⟨_,rfl⟩
 rw [← hg] at hmk HR ⊢
 have HG:=hid hg
 have hl2:(l.length:Int)≤4096:=by omega
 clear h hb R1 B1 hz hg
 go_enter Tryz.func165,Tryz.ntmps165
 go_wp2_with fail
 clear hmk
 go_loopw [11] (fun i wr => ∃k:Nat,k≤l.length∧i = .int .i64 (k:Int)∧Hid (RowV wr g 34 (kv .u16 (upTo l k)))∧Hid (Below w.heap.size w wr)) (fun i _=>l.length-(Go.RowKit.intOf i).toNat)
 case atStart=>exact ⟨0,Nat.zero_le _,rfl,HR,HB⟩
 case round =>
  obtain ⟨k,hk,rfl,HRr,HBr⟩:=hrel
  by_cases hlt:k<l.length
  ·have hki:(k:Int)<(l.length:Int):=by omega
   have hge0:(0:Int)≤(k:Int):=by omega
   obtain ⟨b1,o1,rfl,hb1,hc1⟩:=kv_told H.out hlt
   have c1':wr.cell? ⟨b1,o1+k,none⟩=some (.int .i64 ((l.getD k 0:Nat):Int)):=(HBr.out.cell (p:=⟨b1,o1+k,none⟩) hb1).trans hc1
   have hbd:=HBD.out _ (mem_getD hlt)
   have HS:=hid (HRr.out.set k (.int .u16 ((l.getD k 0:Nat):Int)))
   rw [kv_set,upTo_set l hlt] at HS
   have fz:=HRr.out.free k
   have hc:=HRr.out.cellAt (i:=k) (kv_at .u16 (upTo l k) (by rw [length_upTo l (by omega)]; exact hlt))
   have HU:=hid (ButL.set wr g k (.int .u16 ((l.getD k 0:Nat):Int)))
   clear hc1
   generalize l.getD k 0=x at *
   have hx0:(0:Int)≤(x:Int):=by omega
   have hx1:(x:Int)<65536:=by omega
   have hw:IntKind.u16.wrap (x:Int)=(x:Int):=by simp [IntKind.wrap,IntKind.signed,IntKind.bits]; omega
   have hk63:(k:Int)<9223372036854775807:=by omega
   go_wp2_with fail
   exact ⟨⟨k+1,by omega,by go_num,HS,hid (HBr.out.trans (HU.out.below (by simp; have:=HG.out; omega) HBr.out.size))⟩,by simp [Go.RowKit.intOf]; omega⟩
  ·have hki : ¬(k:Int)<(l.length:Int):=by omega
   obtain rfl:k=l.length:=by omega
   go_wp2_with fail
   go_ret
   refine ⟨g,rfl,?_,by rw [HG.out]; exact Nat.le_refl _,by rw [HG.out]; exact HBr.out⟩
   have:=HRr.out
   rwa [upTo_all] at this
theorem part_int {w:World} {b o c n:Nat} (p:Nat) (hp:p*61<n) (hn:n≤c) (hc:c≤maxLen) (hn2:n≤4096) :
  Calls Tryz.prog 166 #[.slice (some ⟨b,o,none⟩) n c,.int .i64 (p:Int)] w fun e w'=>e = .returned (.slice (some ⟨b,o+p*61,none⟩) (min 61 (n-p*61)) (c-p*61))∧w=w':=by
 have hp0:(0:Int)≤(p:Int):=by omega
 have hpi:(p:Int)*61<(n:Int):=by omega
 have hni:(n:Int)≤4096:=by omega
 obtain ⟨m,hm⟩ : ∃m,m=min 61 (n-p*61):=⟨_,rfl⟩
 have hmin:min ((p:Int)*61+61) (n:Int)=((p*61+m:Nat):Int):=by omega
 have k1 : ¬(c=p*61):=by omega
 have k2 : ¬(p*61=c):=by omega
 rw [← hm]
 go_enter Tryz.func166,Tryz.ntmps166
 go_wp2_with fail
 go_ret
 exact ⟨by simp [hm],rfl⟩
theorem part_uint16 {w:World} {b o c n:Nat} (p:Nat) (hp:p*61<n) (hn:n≤c) (hc:c≤maxLen) (hn2:n≤4096) :
  Calls Tryz.prog 190 #[.slice (some ⟨b,o,none⟩) n c,.int .i64 (p:Int)] w fun e w'=>e = .returned (.slice (some ⟨b,o+p*61,none⟩) (min 61 (n-p*61)) (c-p*61))∧w=w':=by
 have hp0:(0:Int)≤(p:Int):=by omega
 have hpi:(p:Int)*61<(n:Int):=by omega
 have hni:(n:Int)≤4096:=by omega
 obtain ⟨m,hm⟩ : ∃m,m=min 61 (n-p*61):=⟨_,rfl⟩
 have hmin:min ((p:Int)*61+61) (n:Int)=((p*61+m:Nat):Int):=by omega
 have k1 : ¬(c=p*61):=by omega
 have k2 : ¬(p*61=c):=by omega
 rw [← hm]
 go_enter Tryz.func190,Tryz.ntmps190
 go_wp2_with fail
 go_ret
 exact ⟨by simp [hm],rfl⟩
end Go.Proofs.YtogchamogbendaaGreat.Bs
namespace Go.Proofs.YtogchamogbendaaGreat.Bs
open Lib (hid)
open Go.RowKit Oct Mv Tl Pk Pl Go.Maps Go.ChangeMaps
open Dsk (dT)
open Su (Sup nth scells)
def BS.setQ (x:BS) (q:Q):BS:=⟨q,x.l1,x.l2,x.kept,x.now,x.fr,x.D⟩
def BS.setF (x:BS) (fr:Nat→Option (List UInt8)):BS:=⟨x.q,x.l1,x.l2,x.kept,x.now,fr,x.D⟩
def BS.put (x:BS) (b:Nat) (bs:List UInt8):BS:=(x.setQ (x.q.took b)).setF (upd x.fr b (some bs))
def BS.over (x:BS) (b:Nat) (bs:List UInt8):BS:=x.setF (upd x.fr b (some bs))
section
variable {Pr:Nat→Prop} {w w':World} {A:Adr} {x:BS}
theorem map_ne {g fm:Nat} {T:TypeId} {vs:List Value} {es:Array MapEntry} {cl:Nat} (h:RowV w g T vs) (k:w.heap[fm]?=some (.map es cl)):g≠fm:=by
 rintro rfl
 rw [show w.heap[g]?=_ from h] at k
 cases k
theorem FMap.map {fm:Nat} {fr:Nat→Option (List UInt8)} (h:FMap w fm fr) : ∃es cl,w.heap[fm]?=some (.map es cl):=by
 obtain ⟨nn,D,h,_⟩:=h
 exact own_map h
theorem BAt.turnL (h:BAt Pr w A x) {q:Q} (hp:PAt w' A.p A.ta A.cb A.mb A.c q) (k:ButL w w' [A.cb,A.mb,A.p]):BAt Pr w' A (x.setQ q):=by
 obtain ⟨s1,d1,s2,d2,h1,⟨sp1,h2⟩,⟨sp2,h3⟩⟩:=h.row
 obtain ⟨es,cl,hm⟩:=h.fm.map
 obtain ⟨spc,hcb⟩:=h.pat.tally.nums
 have off : ∀ {g:Nat} {T:TypeId} {vs:List Value},RowV w g T vs→T ≠ 235 → T ≠ 34 → w'.heap[g]?=w.heap[g]?:=by
  intro g T vs hr t1 t2
  refine k.block g hr.lt fun hg => ?_
  simp only [List.mem_cons,List.not_mem_nil,or_false] at hg
  rcases hg with rfl | rfl | rfl
  ·exact row_ne hr hcb t2 rfl
  ·obtain ⟨nn,D,ho,_⟩:=h.pat.tally.mp
   exact own_row ho hr rfl
  ·exact row_ne hr h.pat.row t1 rfl
 have offB : ∀ {g:Nat} {cs:Array Value} {fr:Nat×Nat},w.heap[g]?=some (.cells cs 5 fr)→w'.heap[g]?=w.heap[g]?:=by
  intro g cs fr e
  refine k.block g (lt_of_heap e) fun hg => ?_
  simp only [List.mem_cons,List.not_mem_nil,or_false] at hg
  rcases hg with rfl | rfl | rfl
  ·rw [show w.heap[A.cb]?=_ from hcb] at e; cases e
  ·obtain ⟨nn,D,⟨es,cl,ho,_⟩,_⟩:=h.pat.tally.mp
   rw [ho] at e; cases e
  ·rw [show w.heap[A.p]?=_ from h.pat.row] at e; cases e
 have hfm:w'.heap[A.fm]?=w.heap[A.fm]?:=by
  refine k.block A.fm h.fm.lt fun hg => ?_
  simp only [List.mem_cons,List.not_mem_nil,or_false] at hg
  rcases hg with hg | hg | hg
  ·exact map_ne hcb hm hg.symm
  ·exact h.ne hg.symm
  ·exact map_ne h.pat.row hm hg.symm
 refine ⟨⟨s1,d1,s2,d2,h1.block (off h1 (by decide) (by decide)),⟨sp1,h2.block (off h2 (by decide) (by decide))⟩,⟨sp2,h3.block (off h3 (by decide) (by decide))⟩⟩,hp,h.fm.keep hfm fun g bs hb=>hb.block fun cs fr e=>offB e,h.dk.butL k ?_,h.ne,h.np,fun j hj=>Nat.lt_of_lt_of_le (h.lt j hj) k.size⟩
 intro g hg cs t fr e
 simp only [List.mem_cons,List.not_mem_nil,or_false] at hg
 rcases hg with rfl | rfl | rfl
 ·rw [show w.heap[A.cb]?=_ from hcb] at e; cases e; rfl
 ·obtain ⟨nn,D,⟨es,cl,ho,_⟩,_⟩:=h.pat.tally.mp
  rw [ho] at e; cases e
 ·rw [show w.heap[A.p]?=_ from h.pat.row] at e; cases e; rfl
theorem BAt.turn3 (h:BAt Pr w A x) {q:Q} (hp:PAt w' A.p A.ta A.cb A.mb A.c q) (k:But3 w w' A.cb A.mb A.p):BAt Pr w' A (x.setQ q):=h.turnL hp (ButL.of_but3 k)
theorem BAt.turnF (h:BAt Pr w A x) {fr:Nat→Option (List UInt8)} (hf:FMap w' A.fm fr) (k:ButL w w' [A.fm]):BAt Pr w' A (x.setF fr):=by
 obtain ⟨s1,d1,s2,d2,h1,⟨sp1,h2⟩,⟨sp2,h3⟩⟩:=h.row
 obtain ⟨es,cl,hm⟩:=h.fm.map
 obtain ⟨spc,hcb⟩:=h.pat.tally.nums
 have off : ∀ {g:Nat} {T:TypeId} {vs:List Value},RowV w g T vs→w'.heap[g]?=w.heap[g]?:=fun {g T vs} hr=>k.block g hr.lt fun hg=>map_ne hr hm (by simpa using hg)
 have hmb:w'.heap[A.mb]?=w.heap[A.mb]?:=k.block A.mb h.pat.tally.mp.lt fun hg=>h.ne (by simpa using hg)
 refine ⟨⟨s1,d1,s2,d2,h1.block (off h1),⟨sp1,h2.block (off h2)⟩,⟨sp2,h3.block (off h3)⟩⟩,h.pat.blocks (off h.pat.row) (off h.pat.tally.row) (off hcb) hmb,hf,h.dk.butL k ?_,h.ne,h.np,fun j hj=>Nat.lt_of_lt_of_le (h.lt j hj) k.size⟩
 intro g hg cs t fr e
 have:g=A.fm:=by simpa using hg
 subst this
 rw [hm] at e; cases e
theorem fresh_at (h:BAt Pr w A x) (i:Nat) (hi:i≤4096) :
  Calls Tryz.prog 41 #[.pointer (some ⟨A.b,0,none⟩),.int .i64 (i:Int)] w fun e w'=>e = .returned (.bool (x.fr i).isSome)∧w=w':=by
 have c43:=h.c43
 have c41:=h.c41
 obtain ⟨v,hrun,_,_⟩:=fm_look h.fm i hi
 clear h
 go_enter Tryz.func41,Tryz.ntmps41
 go_wp2_with fail
 refine (bmade_self A.b _ c43).mono ?_
 rintro e w' ⟨rfl,rfl⟩
 go_wp2_with fail
 go_ret
 exact ⟨rfl,rfl⟩
def BS.has (x:BS) (i:Nat):List UInt8:=(x.fr i).getD (x.D.says i)
def ReadB (w:World) (bs:List UInt8) (e:Ending) (w':World):Prop := ∃g c,e = .returned (.tuple #[.slice (some ⟨g,0,none⟩) 128 c,.int .i64 0])∧Byt w' g bs∧bs.length=128∧128≤c∧c≤maxLen∧w.heap.size≤g∧Below w.heap.size w w'
theorem read_at (h:BAt Pr w A x) (hn:nth x.now 1≤4096) (hc:x.D.gone=false) (i:Nat) (hi:i<nth x.now 1) (hd:x.D.n=nth x.now 1) :
  Calls Tryz.prog 36 #[.pointer (some ⟨A.b,0,none⟩),.int .i64 (i:Int)] w (ReadB w (x.has i)):=by
 have c43:=h.c43
 have c41:=h.c41
 have c0:=h.c0
 have H:=hid h
 have HD:=hid hd
 have HC:=hid hc
 obtain ⟨v,_,hrun,hv⟩:=fm_look h.fm i (by omega)
 have HV:=hid hv
 have HI:=hid hi
 clear h hv hd hc
 go_enter Tryz.func36,Tryz.ntmps36
 go_wp2_with fail
 refine (bmade_self A.b _ c43).mono ?_
 rintro e w' ⟨rfl,rfl⟩
 go_wp2_with fail
 refine (has_yes H.out hn i (by omega) (by have:=HI.out; omega)).mono ?_
 rintro e w' ⟨rfl,rfl⟩
 go_wp2_with fail
 refine (fresh_at H.out i (by have:=HI.out; omega)).mono ?_
 rintro e w' ⟨rfl,rfl⟩
 cases hf:x.fr i with
 | none =>
  have HF:=hid hf
  rw [show (none:Option (List UInt8)).isSome=false from rfl]
  clear hf
  go_wp2_with fail
  refine (Dsk.read_yes H.out.dk.is HC.out i (by rw [HD.out]; exact HI.out)).mono ?_
  rintro e w1 ⟨g,rfl,hg,hr,hb⟩
  have HR:=hid hr
  have HB:=hid hb
  have HL:=hid (H.out.dk.is.says_len i (by rw [HD.out]; exact HI.out))
  clear hr hb hrun c41 c43 c0
  go_wp2_with fail
  go_ret2
  refine ⟨g,128,rfl,?_,?_,Nat.le_refl _,by unfold maxLen; omega,hg,HB.out⟩
  ·rw [show x.has i=x.D.says i by unfold BS.has; rw [HF.out]; rfl]
   exact ⟨HR.out.has,_,_,HR.out⟩
  ·rw [show x.has i=x.D.says i by unfold BS.has; rw [HF.out]; rfl]
   exact HL.out
 | some bs =>
  obtain ⟨hl,g,c,rfl,hb,h1,h2⟩:=HV.out bs hf
  have HF:=hid hf
  have HBY:=hid hb
  rw [show (some bs).isSome=true from rfl]
  clear hf hb
  go_wp2_with fail
  refine (clone_any (c:=c) hl HBY.out.told).mono ?_
  rintro e w1 ⟨g',c',rfl,hb',k1,k2,k3,k4⟩
  have HB':=hid hb'
  have HK:=hid k4
  clear hb' k4 hrun c41 c43 c0
  go_wp2_with fail
  go_ret2
  have e1:x.has i=bs:=by unfold BS.has; rw [HF.out]; rfl
  rw [e1]
  exact ⟨g',c',rfl,HB'.out,hl,k1,k2,k3,HK.out⟩
def PutB (Pr:Nat→Prop) (A:Adr) (x:BS) (bs:List UInt8) (w:World) (e:Ending) (w':World):Prop := ∃b,e = .returned (.tuple #[.int .i64 ((b:Nat):Int),.int .i64 0])∧x.q.Found b∧BAt Pr w' A (x.put b bs)∧ButL w w' A.list
set_option maxHeartbeats 1000000 in
theorem put_at (h:BAt Pr w A x) (hn:nth x.now 1≤4096) (he:nth x.now 1=x.n) (hr:need x.n<x.q.room) {Ad:Option Addr} {c:Nat} {bs:List UInt8} (hl:bs.length=128) (hT : ∀w',ButL w w' [A.cb,A.mb,A.p]→Oct.Told w' Ad bs) :
  Calls Tryz.prog 25 #[.pointer (some ⟨A.b,0,none⟩),.slice Ad 128 c] w (PutB Pr A x bs w):=by
 have H:=hid h
 have HE:=hid he
 have HR:=hid hr
 have HT:=hid hT
 have c2:=h.c2
 have HN4:=hid (show x.q.s.n≤4096 from h.pat.ok.s.hi)
 obtain ⟨k,hk⟩ : ∃k:Nat,x.q.room-need x.n=k+1:=⟨x.q.room-need x.n-1,by omega⟩
 have HK:=hid hk
 clear h he hr hT hk
 go_enter Tryz.func25,Tryz.ntmps25
 go_wp2_with fail
 refine (stop_at H.out).mono ?_
 rintro e w' ⟨rfl,rfl⟩
 go_wp2_with fail
 refine (room_at H.out hn HE.out (Nat.le_of_lt HR.out)).mono ?_
 rintro e w' ⟨rfl,rfl⟩
 rw [HK.out]
 have hk1 : ¬(((k+1:Nat):Int)=0):=by omega
 have hk2:(((k+1:Nat):Int)==0)=false:=by rw [beq_eq_false_iff_ne]; exact hk1
 go_wp2_with fail
 refine (take_some H.out.pat (by have:=HR.out; omega)).mono ?_
 rintro e w1 ⟨bk,rfl,hb,hp,hk⟩
 have H1:=hid (H.out.turn3 hp hk)
 have HB:=hid hb
 have HK1:=hid (ButL.of_but3 hk)
 have hb4:bk≤4096:=by have:=hb.1; have:=HN4.out; omega
 clear hp hk hb c2 hk1 hk2 H
 go_upto_region 9 with (fail)
 refine Inv2.wp_region_inv (fun b a wy => ∃(z:Nat→Value) (z36:Value),a=⟨(List.toArray (Value.pointer (some ⟨A.b,0,none⟩) :: Value.slice Ad 128 c :: undef :: undef :: Value.int IntKind.i64 0 :: Value.int IntKind.i64 0 :: Value.int IntKind.i64 0 :: Value.int IntKind.i64 ↑bk :: Value.int IntKind.i64 0 :: Value.pointer (some ⟨A.b,0,none⟩) :: Value.int IntKind.i64 0 :: Value.int IntKind.i64 0 :: Value.bool false :: undef :: Value.bool false :: Value.slice Ad 128 c :: Value.int IntKind.i64 128 :: Value.bool false :: Value.bool false :: Value.pointer (some ⟨A.b,0,none⟩) :: Value.int IntKind.i64 (↑k+1) :: Value.bool false :: Value.tuple #[Value.int IntKind.i64 ↑bk,Value.int IntKind.i64 0] :: Value.pointer (some ⟨A.b,0,none⟩) :: Value.pointer (some ⟨A.b,0,none⟩) :: Value.pointer (some ⟨A.b,2,none⟩) :: Value.pointer (some ⟨A.p,0,none⟩) :: Value.tuple #[Value.int IntKind.i64 ↑bk,Value.int IntKind.i64 0] :: Value.int IntKind.i64 ↑bk :: Value.int IntKind.i64 0 :: (z 30) :: (z 31) :: (z 32) :: (z 33) :: (z 34) :: (z 35) :: z36 :: undef :: [])),[]⟩∧Hid ((b 0=true→(z 30)=Value.pointer (some ⟨A.b,0,none⟩))∧(b 1=true→(z 31)=Value.pointer (some ⟨A.b,0,none⟩))∧(b 2=true→(z 32)=Value.pointer (some ⟨A.b,41,none⟩))∧(b 3=true→(z 33)=Value.map (some A.fm))∧(b 4=true→(z 34)=Value.int IntKind.i64 ↑bk)∧(b 5=true→(z 35)=Value.slice Ad 128 c))∧Hid (Below 0 w1 wy)∧Hid ((b 7=false→BAt Pr wy A (x.setQ (x.q.took bk))∧ButL w1 wy [])∧(b 7=true→b 6=true∧BAt Pr wy A (x.put bk bs)∧ButL w1 wy [A.fm])∧(b 6=true→b 7=false → ∃g c',z36 = .slice (some ⟨g,0,none⟩) 128 c'∧Byt wy g bs∧128≤c'∧c'≤maxLen))) (by kernel_rfl) (by kernel_rfl) ?startM ?stepsM ?doneM
 case startM =>
  intro b hb
  refine ⟨fun s=>undef,undef,rfl,hid ⟨?_,?_,?_,?_,?_,?_⟩,hid ((show Still w1 w1.drew from ⟨rfl,rfl,rfl,rfl⟩).below _),hid (⟨fun _=>⟨H1.out.still ⟨rfl,rfl,rfl,rfl⟩,ButL.still _ ⟨rfl,rfl,rfl,rfl⟩⟩,fun e=>absurd (e.symm.trans (hb 7 (by decide))) (by decide),fun e=>absurd (e.symm.trans (hb 6 (by decide))) (by decide)⟩)⟩
  all_goals (intro e; first | rfl | (rw [hb _ (by decide)] at e; cases e))
 case stepsM =>
  refine ⟨?_,?_,?_,?_,?_,?_,?_,?_,trivial⟩
  ·rintro b a wy hb hd ⟨z,z36,rfl,HV,HW,HX⟩ K hK
   clear hd
   go_simp
   have V:=HV.out
   exact hK _ _ ⟨fun s=>if s=30 then Value.pointer (some ⟨A.b,0,none⟩) else z s,_,rfl,hid ⟨fun _=>rfl,V.2.1,V.2.2.1,V.2.2.2.1,V.2.2.2.2.1,V.2.2.2.2.2⟩,HW,HX⟩
  ·rintro b a wy hb hd ⟨z,z36,rfl,HV,HW,HX⟩ K hK
   simp [Region.binds] at hd
   have e0:(z 30)=Value.pointer (some ⟨A.b,0,none⟩):=(HV.out.1) (by simp [hd])
   clear hd
   go_simp
   have V:=HV.out
   exact hK _ _ ⟨fun s=>if s=31 then Value.pointer (some ⟨A.b,0,none⟩) else if s=30 then Value.pointer (some ⟨A.b,0,none⟩) else z s,_,rfl,hid ⟨fun _=>rfl,fun _=>rfl,V.2.2.1,V.2.2.2.1,V.2.2.2.2.1,V.2.2.2.2.2⟩,HW,HX⟩
  ·rintro b a wy hb hd ⟨z,z36,rfl,HV,HW,HX⟩ K hK
   simp [Region.binds] at hd
   have e1:(z 31)=Value.pointer (some ⟨A.b,0,none⟩):=(HV.out.2.1) (by simp [hd])
   clear hd
   go_simp
   have V:=HV.out
   exact hK _ _ ⟨fun s=>if s=32 then Value.pointer (some ⟨A.b,41,none⟩) else if s=31 then Value.pointer (some ⟨A.b,0,none⟩) else z s,_,rfl,hid ⟨V.1,fun _=>rfl,fun _=>rfl,V.2.2.2.1,V.2.2.2.2.1,V.2.2.2.2.2⟩,HW,HX⟩
  ·rintro b a wy hb hd ⟨z,z36,rfl,HV,HW,HX⟩ K hK
   simp [Region.binds] at hd
   have e2:(z 32)=Value.pointer (some ⟨A.b,41,none⟩):=(HV.out.2.2.1) (by simp [hd])
   clear hd
   have c41:wy.cell? ⟨A.b,41,none⟩=some (.map (some A.fm)):=by
    rcases Bool.eq_false_or_eq_true (b 7) with b7 | b7
    ·exact (HX.out.2.1 b7).2.1.c41
    ·exact (HX.out.1 b7).1.c41
   go_simp
   have V:=HV.out
   exact hK _ _ ⟨fun s=>if s=33 then Value.map (some A.fm) else if s=32 then Value.pointer (some ⟨A.b,41,none⟩) else z s,_,rfl,hid ⟨V.1,V.2.1,fun _=>rfl,fun _=>rfl,V.2.2.2.2.1,V.2.2.2.2.2⟩,HW,HX⟩
  ·rintro b a wy hb hd ⟨z,z36,rfl,HV,HW,HX⟩ K hK
   clear hd
   go_simp
   have V:=HV.out
   exact hK _ _ ⟨fun s=>if s=34 then Value.int IntKind.i64 ↑bk else z s,_,rfl,hid ⟨V.1,V.2.1,V.2.2.1,V.2.2.2.1,fun _=>rfl,V.2.2.2.2.2⟩,HW,HX⟩
  ·rintro b a wy hb hd ⟨z,z36,rfl,HV,HW,HX⟩ K hK
   clear hd
   go_simp
   have V:=HV.out
   exact hK _ _ ⟨fun s=>if s=35 then Value.slice Ad 128 c else z s,_,rfl,hid ⟨V.1,V.2.1,V.2.2.1,V.2.2.2.1,V.2.2.2.2.1,fun _=>rfl⟩,HW,HX⟩
  ·rintro b a wy hb hd ⟨z,z36,rfl,HV,HW,HX⟩ K hK
   simp [Region.binds] at hd
   have e5:(z 35)=Value.slice Ad 128 c:=(HV.out.2.2.2.2.2) (by simp [hd])
   clear hd
   have b7:b 7=false:=by
    rcases Bool.eq_false_or_eq_true (b 7) with b7 | b7
    ·exact absurd (hb.symm.trans (HX.out.2.1 b7).1) (by decide)
    ·exact b7
   go_simp
   go_at_call 97
   refine (clone_any (c:=c) hl (HT.out _ (HK1.out.trans ((HX.out.1 b7).2.mono (by simp))))).mono ?_
   rintro e wz ⟨g,c',rfl,hby,k1,k2,k3,kz⟩
   try go_simp
   have V:=HV.out
   exact hK _ _ ⟨fun s=>if s=35 then Value.slice Ad 128 c else z s,_,rfl,hid ⟨V.1,V.2.1,V.2.2.1,V.2.2.2.1,V.2.2.2.2.1,fun _=>rfl⟩,hid (HW.out.trans (kz.mono (Nat.zero_le _))),hid ⟨fun _=>⟨(HX.out.1 b7).1.below kz,(HX.out.1 b7).2.trans (ButL.of_below _ kz (Nat.le_refl _))⟩,fun e=>absurd (e.symm.trans b7) (by decide),fun _ _=>⟨g,c',rfl,hby,k1,k2⟩⟩⟩
  ·rintro b a wy hb hd ⟨z,z36,rfl,HV,HW,HX⟩ K hK
   simp [Region.binds] at hd
   have e3:(z 33)=Value.map (some A.fm):=(HV.out.2.2.2.1) (by simp [hd])
   have e4:(z 34)=Value.int IntKind.i64 ↑bk:=(HV.out.2.2.2.2.1) (by simp [hd])
   have dd6:b 6=true:=by simp [hd]
   clear hd
   obtain ⟨HA7,HK7⟩:=HX.out.1 hb
   obtain ⟨g,c',zz,hby,k1,k2⟩:=HX.out.2.2 dd6 hb
   subst zz
   obtain ⟨w4,hrun,hf4,hk4⟩:=fm_put HA7.fm bk hb4 bs hl g c' hby k1 k2
   have H4:=hid (show BAt Pr w4 A (x.put bk bs) from HA7.turnF hf4 hk4)
   have HK4:=hid (show ButL w1 w4 [A.fm] from (HK7.mono (by simp)).trans hk4)
   have HBZ:=hid (show Below 0 wy w4 from hk4.below (fun _ _=>Nat.zero_le _) (Nat.zero_le _))
   clear hf4 hk4 HA7 HK7 hby
   go_simp
   have V:=HV.out
   exact hK _ _ ⟨fun s=>if s=33 then Value.map (some A.fm) else if s=34 then Value.int IntKind.i64 ↑bk else z s,_,rfl,hid ⟨V.1,V.2.1,V.2.2.1,fun _=>rfl,fun _=>rfl,V.2.2.2.2.2⟩,hid (HW.out.trans HBZ.out),hid ⟨fun e=>(by cases e),fun _=>⟨dd6,H4.out,HK4.out⟩,fun _ e=>(by cases e)⟩⟩
 case doneM =>
  rintro b a w9 hb ⟨z,z36,rfl,HV,HW,HX⟩
  have e0:=(HV.out.1) (hb 0)
  have e1:=(HV.out.2.1) (hb 1)
  have e2:=(HV.out.2.2.1) (hb 2)
  have e3:=(HV.out.2.2.2.1) (hb 3)
  have e4:=(HV.out.2.2.2.2.1) (hb 4)
  have e5:=(HV.out.2.2.2.2.2) (hb 5)
  simp only [e0,e1,e2,e3,e4,e5]
  clear HV e0 e1 e2 e3 e4 e5
  obtain ⟨h6,HA9,HK9⟩:=HX.out.2.1 (hb 7)
  have H9:=hid HA9
  have HL9:=hid HK9
  clear HX HW hb h6 HA9 HK9
  go_wp2_with fail
  go_ret2
  exact ⟨bk,rfl,HB.out,H9.out,(HK1.out.mono (M:=A.list) (by simp [Adr.list])).join HL9.out (by simp [Adr.list])⟩
set_option maxHeartbeats 1000000 in
theorem over_at (h:BAt Pr w A x) (hn:nth x.now 1≤4096) (i:Nat) (hi:i<nth x.now 1) (hf:(x.fr i).isSome=true) {Ad:Option Addr} {c:Nat} {bs:List UInt8} (hl:bs.length=128) (hT : ∀w',ButL w w' []→Oct.Told w' Ad bs) :
  Calls Tryz.prog 37 #[.pointer (some ⟨A.b,0,none⟩),.int .i64 (i:Int),.slice Ad 128 c] w fun e w'=>e = .returned (.int .i64 0)∧BAt Pr w' A (x.over i bs)∧ButL w w' A.list:=by
 have H:=hid h
 have HF:=hid hf
 have HI:=hid hi
 have HT:=hid hT
 have hb4:i≤4096:=by omega
 clear h hf hi hT
 go_enter Tryz.func37,Tryz.ntmps37
 go_wp2_with fail
 refine (stop_at H.out).mono ?_
 rintro e w' ⟨rfl,rfl⟩
 go_wp2_with fail
 refine (has_yes H.out hn i (by omega) (by have:=HI.out; omega)).mono ?_
 rintro e w' ⟨rfl,rfl⟩
 go_wp2_with fail
 refine (fresh_at H.out i (by have:=HI.out; omega)).mono ?_
 rintro e w' ⟨rfl,rfl⟩
 rw [HF.out]
 go_upto_region 8 with (fail)
 refine Inv2.wp_region_inv (fun b a wy => ∃(z:Nat→Value) (z34:Value),a=⟨(List.toArray (Value.pointer (some ⟨A.b,0,none⟩) :: Value.int IntKind.i64 ↑i :: Value.slice Ad 128 c :: undef :: undef :: undef :: Value.int IntKind.i64 0 :: Value.int IntKind.i64 0 :: Value.pointer (some ⟨A.b,0,none⟩) :: Value.int IntKind.i64 0 :: Value.int IntKind.i64 0 :: Value.bool false :: undef :: Value.bool false :: Value.pointer (some ⟨A.b,0,none⟩) :: Value.int IntKind.i64 ↑i :: Value.bool true :: Value.bool false :: Value.bool false :: Value.slice Ad 128 c :: Value.int IntKind.i64 128 :: Value.bool false :: Value.bool false :: Value.bool false :: Value.pointer (some ⟨A.b,0,none⟩) :: Value.int IntKind.i64 ↑i :: Value.bool true :: Value.bool false :: (z 28) :: (z 29) :: (z 30) :: (z 31) :: (z 32) :: (z 33) :: z34 :: [])),[]⟩∧Hid ((b 0=true→(z 28)=Value.pointer (some ⟨A.b,0,none⟩))∧(b 1=true→(z 29)=Value.pointer (some ⟨A.b,0,none⟩))∧(b 2=true→(z 30)=Value.pointer (some ⟨A.b,41,none⟩))∧(b 3=true→(z 31)=Value.map (some A.fm))∧(b 4=true→(z 32)=Value.int IntKind.i64 ↑i)∧(b 5=true→(z 33)=Value.slice Ad 128 c))∧Hid (Below 0 w wy)∧Hid ((b 7=false→BAt Pr wy A (x)∧ButL w wy [])∧(b 7=true→b 6=true∧BAt Pr wy A (x.over i bs)∧ButL w wy [A.fm])∧(b 6=true→b 7=false → ∃g c',z34 = .slice (some ⟨g,0,none⟩) 128 c'∧Byt wy g bs∧128≤c'∧c'≤maxLen))) (by kernel_rfl) (by kernel_rfl) ?startM ?stepsM ?doneM
 case startM =>
  intro b hb
  refine ⟨fun s=>undef,undef,rfl,hid ⟨?_,?_,?_,?_,?_,?_⟩,hid ((show Still w w.drew from ⟨rfl,rfl,rfl,rfl⟩).below _),hid (⟨fun _=>⟨H.out.still ⟨rfl,rfl,rfl,rfl⟩,ButL.still _ ⟨rfl,rfl,rfl,rfl⟩⟩,fun e=>absurd (e.symm.trans (hb 7 (by decide))) (by decide),fun e=>absurd (e.symm.trans (hb 6 (by decide))) (by decide)⟩)⟩
  all_goals (intro e; first | rfl | (rw [hb _ (by decide)] at e; cases e))
 case stepsM =>
  refine ⟨?_,?_,?_,?_,?_,?_,?_,?_,trivial⟩
  ·rintro b a wy hb hd ⟨z,z34,rfl,HV,HW,HX⟩ K hK
   clear hd
   go_simp
   have V:=HV.out
   exact hK _ _ ⟨fun s=>if s=28 then Value.pointer (some ⟨A.b,0,none⟩) else z s,_,rfl,hid ⟨fun _=>rfl,V.2.1,V.2.2.1,V.2.2.2.1,V.2.2.2.2.1,V.2.2.2.2.2⟩,HW,HX⟩
  ·rintro b a wy hb hd ⟨z,z34,rfl,HV,HW,HX⟩ K hK
   simp [Region.binds] at hd
   have e0:(z 28)=Value.pointer (some ⟨A.b,0,none⟩):=(HV.out.1) (by simp [hd])
   clear hd
   go_simp
   have V:=HV.out
   exact hK _ _ ⟨fun s=>if s=29 then Value.pointer (some ⟨A.b,0,none⟩) else if s=28 then Value.pointer (some ⟨A.b,0,none⟩) else z s,_,rfl,hid ⟨fun _=>rfl,fun _=>rfl,V.2.2.1,V.2.2.2.1,V.2.2.2.2.1,V.2.2.2.2.2⟩,HW,HX⟩
  ·rintro b a wy hb hd ⟨z,z34,rfl,HV,HW,HX⟩ K hK
   simp [Region.binds] at hd
   have e1:(z 29)=Value.pointer (some ⟨A.b,0,none⟩):=(HV.out.2.1) (by simp [hd])
   clear hd
   go_simp
   have V:=HV.out
   exact hK _ _ ⟨fun s=>if s=30 then Value.pointer (some ⟨A.b,41,none⟩) else if s=29 then Value.pointer (some ⟨A.b,0,none⟩) else z s,_,rfl,hid ⟨V.1,fun _=>rfl,fun _=>rfl,V.2.2.2.1,V.2.2.2.2.1,V.2.2.2.2.2⟩,HW,HX⟩
  ·rintro b a wy hb hd ⟨z,z34,rfl,HV,HW,HX⟩ K hK
   simp [Region.binds] at hd
   have e2:(z 30)=Value.pointer (some ⟨A.b,41,none⟩):=(HV.out.2.2.1) (by simp [hd])
   clear hd
   have c41:wy.cell? ⟨A.b,41,none⟩=some (.map (some A.fm)):=by
    rcases Bool.eq_false_or_eq_true (b 7) with b7 | b7
    ·exact (HX.out.2.1 b7).2.1.c41
    ·exact (HX.out.1 b7).1.c41
   go_simp
   have V:=HV.out
   exact hK _ _ ⟨fun s=>if s=31 then Value.map (some A.fm) else if s=30 then Value.pointer (some ⟨A.b,41,none⟩) else z s,_,rfl,hid ⟨V.1,V.2.1,fun _=>rfl,fun _=>rfl,V.2.2.2.2.1,V.2.2.2.2.2⟩,HW,HX⟩
  ·rintro b a wy hb hd ⟨z,z34,rfl,HV,HW,HX⟩ K hK
   clear hd
   go_simp
   have V:=HV.out
   exact hK _ _ ⟨fun s=>if s=32 then Value.int IntKind.i64 ↑i else z s,_,rfl,hid ⟨V.1,V.2.1,V.2.2.1,V.2.2.2.1,fun _=>rfl,V.2.2.2.2.2⟩,HW,HX⟩
  ·rintro b a wy hb hd ⟨z,z34,rfl,HV,HW,HX⟩ K hK
   clear hd
   go_simp
   have V:=HV.out
   exact hK _ _ ⟨fun s=>if s=33 then Value.slice Ad 128 c else z s,_,rfl,hid ⟨V.1,V.2.1,V.2.2.1,V.2.2.2.1,V.2.2.2.2.1,fun _=>rfl⟩,HW,HX⟩
  ·rintro b a wy hb hd ⟨z,z34,rfl,HV,HW,HX⟩ K hK
   simp [Region.binds] at hd
   have e5:(z 33)=Value.slice Ad 128 c:=(HV.out.2.2.2.2.2) (by simp [hd])
   clear hd
   have b7:b 7=false:=by
    rcases Bool.eq_false_or_eq_true (b 7) with b7 | b7
    ·exact absurd (hb.symm.trans (HX.out.2.1 b7).1) (by decide)
    ·exact b7
   go_simp
   go_at_call 97
   refine (clone_any (c:=c) hl (HT.out _ (HX.out.1 b7).2)).mono ?_
   rintro e wz ⟨g,c',rfl,hby,k1,k2,k3,kz⟩
   try go_simp
   have V:=HV.out
   exact hK _ _ ⟨fun s=>if s=33 then Value.slice Ad 128 c else z s,_,rfl,hid ⟨V.1,V.2.1,V.2.2.1,V.2.2.2.1,V.2.2.2.2.1,fun _=>rfl⟩,hid (HW.out.trans (kz.mono (Nat.zero_le _))),hid ⟨fun _=>⟨(HX.out.1 b7).1.below kz,(HX.out.1 b7).2.trans (ButL.of_below _ kz (Nat.le_refl _))⟩,fun e=>absurd (e.symm.trans b7) (by decide),fun _ _=>⟨g,c',rfl,hby,k1,k2⟩⟩⟩
  ·rintro b a wy hb hd ⟨z,z34,rfl,HV,HW,HX⟩ K hK
   simp [Region.binds] at hd
   have e3:(z 31)=Value.map (some A.fm):=(HV.out.2.2.2.1) (by simp [hd])
   have e4:(z 32)=Value.int IntKind.i64 ↑i:=(HV.out.2.2.2.2.1) (by simp [hd])
   have dd6:b 6=true:=by simp [hd]
   clear hd
   obtain ⟨HA7,HK7⟩:=HX.out.1 hb
   obtain ⟨g,c',zz,hby,k1,k2⟩:=HX.out.2.2 dd6 hb
   subst zz
   obtain ⟨w4,hrun,hf4,hk4⟩:=fm_put HA7.fm i hb4 bs hl g c' hby k1 k2
   have H4:=hid (show BAt Pr w4 A (x.over i bs) from HA7.turnF hf4 hk4)
   have HK4:=hid (show ButL w w4 [A.fm] from (HK7.mono (by simp)).trans hk4)
   have HBZ:=hid (show Below 0 wy w4 from hk4.below (fun _ _=>Nat.zero_le _) (Nat.zero_le _))
   clear hf4 hk4 HA7 HK7 hby
   go_simp
   have V:=HV.out
   exact hK _ _ ⟨fun s=>if s=31 then Value.map (some A.fm) else if s=32 then Value.int IntKind.i64 ↑i else z s,_,rfl,hid ⟨V.1,V.2.1,V.2.2.1,fun _=>rfl,fun _=>rfl,V.2.2.2.2.2⟩,hid (HW.out.trans HBZ.out),hid ⟨fun e=>(by cases e),fun _=>⟨dd6,H4.out,HK4.out⟩,fun _ e=>(by cases e)⟩⟩
 case doneM =>
  rintro b a w9 hb ⟨z,z34,rfl,HV,HW,HX⟩
  have e0:=(HV.out.1) (hb 0)
  have e1:=(HV.out.2.1) (hb 1)
  have e2:=(HV.out.2.2.1) (hb 2)
  have e3:=(HV.out.2.2.2.1) (hb 3)
  have e4:=(HV.out.2.2.2.2.1) (hb 4)
  have e5:=(HV.out.2.2.2.2.2) (hb 5)
  simp only [e0,e1,e2,e3,e4,e5]
  clear HV e0 e1 e2 e3 e4 e5
  obtain ⟨h6,HA9,HK9⟩:=HX.out.2.1 (hb 7)
  have H9:=hid HA9
  have HL9:=hid HK9
  clear HX HW hb h6 HA9 HK9
  go_wp2_with fail
  go_ret
  exact ⟨rfl,H9.out,HL9.out.mono (by simp [Adr.list])⟩
end
end Go.Proofs.YtogchamogbendaaGreat.Bs
namespace Go.Proofs.YtogchamogbendaaGreat.Bs
open Lib (hid)
open Go.RowKit Oct Mv Tl Pk Pl Go.Maps Go.ChangeMaps
open Dsk (dT)
open Su (Sup nth scells)
theorem index_any {w:World} {Ad:Option Addr} {c:Nat} {l:List Nat} (h:ToldV w Ad (ints l)) (hl:l.length≤4096) (z:Nat) :
  Calls Tryz.prog 196 #[.slice Ad l.length c,.int .i64 (z:Int)] w fun e w' => ∃r:Int,e = .returned (.int .i64 r)∧(0≤r↔z∈l)∧w=w':=by
 have H:=hid h
 have hl2:(l.length:Int)≤4096:=by omega
 clear h
 go_enter Tryz.func196,Tryz.ntmps196
 go_wp2_with fail
 go_loopw [8] (fun i wr => ∃k:Nat,k≤l.length∧i = .int .i64 (k:Int)∧Hid (∀j,j<k→l.getD j 0≠z)∧wr=w) (fun i _=>l.length-(Go.RowKit.intOf i).toNat)
 case atStart=>exact ⟨0,Nat.zero_le _,rfl,hid (fun j hj=>by omega),rfl⟩
 case round =>
  obtain ⟨k,hk,rfl,HE,rfl⟩:=hrel
  by_cases hlt:k<l.length
  ·have hki:(k:Int)<(l.length:Int):=by omega
   have hge:(0:Int)≤(k:Int):=by omega
   obtain ⟨b1,o1,rfl,hb1,hc1⟩:=told_nat H.out hlt
   have HZ:=hid (mem_getD hlt)
   have HN:=hid (show l.getD k 0≠z → ∀j,j<k+1→l.getD j 0≠z from fun e j hj=>(Nat.lt_or_ge j k).elim (HE.out j) (fun h=>by rw [show j=k by omega]; exact e))
   generalize l.getD k 0=y at *
   by_cases hy:z=y
   ·have hyi:(z:Int)=(y:Int):=by omega
    have hyb:((z:Int)==(y:Int))=true:=by rw [hyi]; simp
    go_wp2_with fail
    go_ret
    exact ⟨_,rfl,⟨fun _=>by rw [hy]; exact HZ.out,fun _=>by omega⟩,rfl⟩
   ·have hyi : ¬((z:Int)=(y:Int)):=by omega
    have hyb:((z:Int)==(y:Int))=false:=by rw [beq_eq_false_iff_ne]; exact hyi
    go_wp2_with fail
    go_roundw
    case rel=>exact ⟨k+1,by omega,by go_num,hid (HN.out (fun e=>hy e.symm)),trivial⟩
    case measure=>simp [Go.RowKit.intOf]; omega
  ·have hki : ¬(k:Int)<(l.length:Int):=by omega
   obtain rfl:k=l.length:=by omega
   go_wp2_with fail
   go_ret
   refine ⟨-1,rfl,⟨fun h=>by omega,fun hm => ?_⟩,rfl⟩
   obtain ⟨i,hi,he⟩:=List.getElem_of_mem hm
   exact (HE.out i hi (by rw [List.getD_eq_getElem?_getD,List.getElem?_eq_getElem hi]; exact he)).elim
theorem contains_any {w:World} {Ad:Option Addr} {c:Nat} {l:List Nat} (h:ToldV w Ad (ints l)) (hl:l.length≤4096) (z:Nat) (hz:z∉l) :
  Calls Tryz.prog 155 #[.slice Ad l.length c,.int .i64 (z:Int)] w fun e w'=>e = .returned (.bool false)∧w=w':=by
 have H:=hid h
 have HZ:=hid hz
 clear h hz
 go_enter Tryz.func155,Tryz.ntmps155
 go_wp2_with fail
 refine (index_any H.out hl z).mono ?_
 rintro e w' ⟨r,rfl,hr,rfl⟩
 have hr2 : ¬0≤r:=fun h=>HZ.out (hr.1 h)
 have hr3:decide (0≤r)=false:=decide_eq_false hr2
 clear hr
 go_wp2_with fail
 go_ret
 exact ⟨rfl,rfl⟩
section
variable {Pr:Nat→Prop} {w w':World} {A:Adr} {x:BS}
end
end Go.Proofs.YtogchamogbendaaGreat.Bs
