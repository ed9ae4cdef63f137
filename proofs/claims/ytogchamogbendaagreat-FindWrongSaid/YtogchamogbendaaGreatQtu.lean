import Derived.Deep.RegionWith
import Derived.Deep.DeepCutAuto
import Derived.Deep.RegionLaw
import Derived.Deep.RegionHeld3
import Derived.Laws.ResultCell
import Derived.Lib.SmallJoins
import Derived.Test.YtogchamogbendaaGreatQta
import Derived.Test.YtogchamogbendaaGreatQtm
set_option maxRecDepth 100000
set_option linter.unusedVariables false
set_option linter.unusedSimpArgs false
namespace Go.Proofs.YtogchamogbendaaGreat.Lf
open Go.RowKit Oct
theorem u64_lt (c:UInt64):c.toNat<18446744073709551616:=c.toNat_lt
def nvals (ns:List UInt64):List Value:=ns.map fun c => .int .u64 (c.toNat:Int)
theorem length_nvals (ns:List UInt64):(nvals ns).length=ns.length:=by simp [nvals]
def HasN (w:World) (b o:Nat) (ns:List UInt64):Prop := ∀i (h:i<ns.length),w.cell? ⟨b,o+i,none⟩=some (.int .u64 (ns[i].toNat:Int))
def ToldN (w:World) (a:Option Addr) (ns:List UInt64):Prop:=ns = [] ∨ ∃b o,a=some ⟨b,o,none⟩∧HasN w b o ns
def RowN (w:World) (g:Nat) (T:TypeId) (ns:List UInt64):Prop:=w.heap[g]?=some (.cells (nvals ns).toArray T (0,0))
theorem HasN.told {w:World} {b o:Nat} {ns:List UInt64} (h:HasN w b o ns):ToldN w (some ⟨b,o,none⟩) ns := .inr ⟨b,o,rfl,h⟩
theorem HasN.below {w w':World} {b o B:Nat} {ns:List UInt64} (h:HasN w b o ns) (hb:b<B) (k:Below B w w'):HasN w' b o ns:=fun i hi=>(k.cell hb).trans (h i hi)
theorem HasN.still {w w':World} {b o:Nat} {ns:List UInt64} (h:HasN w b o ns) (S:Still w w'):HasN w' b o ns:=fun i hi=>(S.cell _).trans (h i hi)
theorem HasN.lt {w:World} {b o:Nat} {ns:List UInt64} (h:HasN w b o ns) (h0:0<ns.length):b<w.heap.size:=World.block_lt_of_cell? w _ (h 0 h0)
theorem HasN.cut {w:World} {b o:Nat} {ns:List UInt64} (h:HasN w b o ns) (p s:Nat):HasN w b (o+p) ((ns.drop p).take s):=by
 intro i hi
 simp only [List.length_take,List.length_drop] at hi
 have:=h (p+i) (by omega)
 rw [Nat.add_assoc,this]
 simp
theorem HasN.pre {w:World} {b o:Nat} {ns:List UInt64} (h:HasN w b o ns) (s:Nat):HasN w b o (ns.take s):=by
 have:=h.cut 0 s
 rwa [Nat.add_zero,List.drop_zero] at this
theorem ToldN.below {w w':World} {a:Option Addr} {ns:List UInt64} (h:ToldN w a ns) (k:Below w.heap.size w w'):ToldN w' a ns:=by
 rcases h with h | ⟨b,o,rfl,h⟩
 ·exact .inl h
 ·by_cases h0:0<ns.length
  ·exact .inr ⟨b,o,rfl,h.below (h.lt h0) k⟩
  ·exact .inl (List.eq_nil_of_length_eq_zero (by omega))
theorem ToldN.still {w w':World} {a:Option Addr} {ns:List UInt64} (h:ToldN w a ns) (S:Still w w'):ToldN w' a ns:=by
 rcases h with h | ⟨b,o,rfl,h⟩
 ·exact .inl h
 ·exact .inr ⟨b,o,rfl,h.still S⟩
theorem ToldN.has {w:World} {a:Option Addr} {ns:List UInt64} (h:ToldN w a ns) (h0:0<ns.length) : ∃b o,a=some ⟨b,o,none⟩∧HasN w b o ns:=by
 rcases h with h | h
 ·subst h; simp at h0
 ·exact h
theorem RowN.has {w:World} {g:Nat} {T:TypeId} {ns:List UInt64} (h:RowN w g T ns):HasN w g 0 ns:=by
 intro i hi
 unfold RowN at h
 simp [World.cell?,h,nvals,hi]
theorem RowN.free {w:World} {g:Nat} {T:TypeId} {ns:List UInt64} (h:RowN w g T ns) (i:Nat):w.frozen? ⟨g,i,none⟩=false:=by
 unfold RowN at h
 simp [World.frozen?,h]
theorem RowN.lt {w:World} {g:Nat} {T:TypeId} {ns:List UInt64} (h:RowN w g T ns):g<w.heap.size:=(Array.getElem?_eq_some_iff.1 h).1
theorem RowN.still {w w':World} {g:Nat} {T:TypeId} {ns:List UInt64} (h:RowN w g T ns) (hs:Still w w'):RowN w' g T ns:=by
 unfold RowN at h ⊢
 rw [hs.heap,h]
theorem RowN.below {w w':World} {g B:Nat} {T:TypeId} {ns:List UInt64} (h:RowN w g T ns) (hg:g<B) (k:Below B w w'):RowN w' g T ns:=by
 unfold RowN at h ⊢
 rw [k.block g hg,h]
theorem RowN.set {w:World} {g:Nat} {T:TypeId} {ns:List UInt64} (h:RowN w g T ns) (i:Nat) (c:UInt64):RowN (w.setCell ⟨g,i,none⟩ (.int .u64 (c.toNat:Int))) g T (ns.set i c):=by
 unfold RowN at h ⊢
 rw [heap_setCell_same w g i _ _ _ h]
 congr 2
 simp [nvals,List.map_set]
theorem RowN.other {w:World} {g q i:Nat} {T:TypeId} {ns:List UInt64} {v:Value} (h:RowN w g T ns) (hq:g≠q):RowN (w.setCell ⟨q,i,none⟩ v) g T ns:=by
 unfold RowN at h ⊢
 rw [heap_setCell_other _ _ _ _ (by exact hq),h]
theorem made_zerosN (n:Nat):madeCells (Value.int .u64 0).cells n=(nvals (List.replicate n 0)).toArray:=by
 apply Array.ext
 ·simp [madeCells,nvals]
 ·intro i h1 h2
  simp [madeCells,nvals,Value.cells,Nat.mod_one]
theorem run_make_nums (w:World) (k:IntKind) (n:Nat) (hn:n≤1000000) :
  (Instr.makeSlice 84 (.int k (n:Int)) (.int k (n:Int))).run Tryz.prog w = .ok (.slice (some ⟨w.heap.size,0,none⟩) n n) (w.alloc (.cells (nvals (List.replicate n 0)).toArray 30)):=by
 have i0:(Tryz.prog.info? 30).map (fun i=>(i.zero,i.size,i.bytes))=some (some (.int .u64 0),1,8):=by kernel_rfl
 obtain ⟨i0,hi,hz0,hz1,hz2⟩:=info_parts i0
 have h:=run_make (P:=Tryz.prog) w 84 30 i0 (.int .u64 0) Tryz.underlying84 hi hz0 k k n n (by omega) (by omega) (by rw [hz2]; omega) (by omega)
 rw [hz1,Nat.mul_one,Int.toNat_natCast,made_zerosN] at h
 exact h
theorem alloc_rowN (w:World) (T:TypeId) (ns:List UInt64):RowN (w.alloc (.cells (nvals ns).toArray T)) w.heap.size T ns:=heap_alloc_new w _
theorem run_copy_nums (w:World) (ty T:TypeId) (g off dLen dCap:Nat) (cur ns:List UInt64) (R:RowN w g T cur) (a:Option Addr) (len cap:Nat) (hlen:ns.length=len) (hT:ToldN w a ns) (hd:len≤dLen) (hfit:off+len≤cur.length) :
  ∃w',(Builtin.copy_ #[84,84] ty #[.slice (some ⟨g,off,none⟩) dLen dCap,.slice a len cap]).run Tryz.prog w = .ok (goInt len) w'∧RowN w' g T (splice cur off ns)∧Below g w w'∧(∀k,k≠g→w'.heap[k]?=w.heap[k]?)∧w'.heap.size=w.heap.size:=by
 have hsz:(Tryz.prog.info? 30).map (·.size)=some 1:=by kernel_rfl
 rcases hT with rfl | ⟨b,o,rfl,hT⟩
 ·obtain rfl:len=0:=by simpa using hlen.symm
  refine ⟨w,run_copy_none (P:=Tryz.prog) w _ _ ty 30 _ a dLen dCap 0 cap Tryz.underlying84 hsz (Nat.min_eq_left (Nat.zero_le _)),?_,Below.refl _ _,fun _ _=>rfl,rfl⟩
  simpa [splice] using R
 ·have h:=run_copy_row (P:=Tryz.prog) w 84 84 ty 30 g off dLen dCap ⟨b,o,none⟩ len cap (nvals cur).toArray T (nvals ns) Tryz.underlying84 hsz R
   (by rw [length_nvals,hlen]; exact (Nat.min_eq_left hd).symm)
   (fun j v hj=>by
    have hjl:j<ns.length:=by
     rcases Nat.lt_or_ge j ns.length with h | h
     ·exact h
     ·rw [List.getElem?_eq_none (by rw [length_nvals]; exact h)] at hj; cases hj
    have hv:v = .int .u64 (ns[j].toNat:Int):=by simpa [nvals,hjl] using hj.symm
    rw [hv,add_plain]
    exact hT j hjl)
   (by rw [length_nvals,hlen]; simpa [length_nvals] using hfit)
   (fun v hv=>by simp [nvals] at hv; obtain ⟨c,_,rfl⟩:=hv; rfl)
  rw [length_nvals,hlen] at h
  refine ⟨_,h,?_,⟨rfl,rfl,rfl,by simp,fun k hk=>setRow_other w g k _ (by omega)⟩,fun k hk=>setRow_other w g k _ hk,by simp⟩
  unfold RowN
  rw [setRow_heap w g _ _ _ _ R]
  congr 3
  simp [splice,nvals,List.map_take,List.map_drop,hlen]
theorem u64_wf {n:Int} (h:(Lit.int .u64 n).wf=true):0≤n∧n≤18446744073709551615:=by
 have h2:IntKind.u64.min≤n∧n≤IntKind.u64.max:=by simpa [Lit.wf] using h
 exact h2
structure CameN (w:World) (a:Option Addr) (len cap:Nat) (ns:List UInt64):Prop where
 hlen:ns.length=len
 told:ToldN w a ns
 le:len≤cap
 hcap:cap≤maxLen
theorem cameN {w:World} {a:Option Addr} {len cap:Nat} {zs:List Int} (h:IsRow .u64 w a len cap zs) : ∃ns,CameN w a len cap ns:=by
 rcases h with ⟨rfl,rfl,rfl,rfl⟩ | ⟨x,rfl,hl,hm,hz,hc,hw⟩
 ·exact ⟨[],rfl,.inl rfl,Nat.le_refl _,Nat.zero_le _⟩
 ·have hlen:((zs.take len).map fun n=>UInt64.ofNat n.toNat).length=len:=by simp; omega
  refine ⟨_,hlen,?_,hl,hm⟩
  rcases Nat.eq_zero_or_pos len with h0 | h0
  ·left
   exact List.eq_nil_of_length_eq_zero (by rw [hlen,h0])
  ·have h1:=hc 0 (by omega)
   obtain ⟨b,o,spot⟩:=x
   have hspot:spot=none:=by simpa [Addr.add] using World.cell?_spot h1
   subst hspot
   refine .inr ⟨b,o,rfl,fun i hi => ?_⟩
   rw [hlen] at hi
   have h2:=hc i (by omega)
   rw [add_plain] at h2
   have hi2:i<zs.length:=by omega
   have h3:=u64_wf (hw zs[i] (List.getElem_mem hi2))
   rw [h2]
   have h4:zs[i].toNat % 18446744073709551616=zs[i].toNat:=Nat.mod_eq_of_lt (by omega)
   simp [List.getD,hi2,h4]
   omega
end Go.Proofs.YtogchamogbendaaGreat.Lf
namespace Go.Proofs.YtogchamogbendaaGreat.Lf
open Lib (hid)
open Go.RowKit Oct
def Rises (ks:List UInt64):Prop:=ks.Pairwise (fun a b=>a.toNat<b.toNat)
instance (ks:List UInt64):Decidable (Rises ks):=by unfold Rises; infer_instance
def Kids (vs:List UInt64):Prop:=(∀v∈vs,1≤v.toNat∧v.toNat<4096)∧vs.Nodup
instance (vs:List UInt64):Decidable (Kids vs):=by unfold Kids; infer_instance
theorem rises_take_succ {ks:List UInt64} {k:Nat} (h0:0<k) (hk:k<ks.length) (h:Rises (ks.take k)) (hl:(ks[k-1]'(by omega)).toNat<(ks[k]'hk).toNat):Rises (ks.take (k+1)):=by
 unfold Rises at *
 rw [List.pairwise_iff_getElem] at *
 intro i j hi hj hij
 simp only [List.length_take] at hi hj
 simp only [List.getElem_take] at *
 by_cases hjk:j=k
 ·subst hjk
  by_cases hik:i=j-1
  ·subst hik; exact hl
  ·exact Nat.lt_trans (h i (j-1) (by simp; omega) (by simp; omega) (by omega)) hl
 ·exact h i j (by simp; omega) (by simp; omega) hij
theorem rises_not {ks:List UInt64} {k:Nat} (h0:0<k) (hk:k<ks.length) (hl : ¬(ks[k-1]'(by omega)).toNat<(ks[k]'hk).toNat) : ¬Rises ks:=by
 unfold Rises
 rw [List.pairwise_iff_getElem]
 exact fun h=>hl (h (k-1) k (by omega) hk (by omega))
theorem kids_take_succ {vs:List UInt64} {k:Nat} (hk:k<vs.length) (h:Kids (vs.take k)) (h1:1≤(vs[k]'hk).toNat) (h2:(vs[k]'hk).toNat<4096) (h3:vs[k]∉vs.take k):Kids (vs.take (k+1)):=by
 rw [List.take_succ_eq_append_getElem hk]
 refine ⟨fun v hv => ?_,?_⟩
 ·rcases List.mem_append.1 hv with hv | hv
  ·exact h.1 v hv
  ·simp at hv; subst hv; exact ⟨h1,h2⟩
 ·rw [List.nodup_append]
  refine ⟨h.2,by simp,fun a ha b hb e => ?_⟩
  simp at hb; subst hb; subst e; exact h3 ha
theorem kids_not1 {vs:List UInt64} {k:Nat} (hk:k<vs.length) (h : ¬(1≤(vs[k]'hk).toNat∧(vs[k]'hk).toNat<4096)) : ¬Kids vs:=fun hK=>h (hK.1 _ (List.getElem_mem hk))
theorem kids_not2 {vs:List UInt64} {k:Nat} (hk:k<vs.length) (h:vs[k]∈vs.take k) : ¬Kids vs:=fun hK=>by
 have hn:=hK.2
 obtain ⟨i,hi,e⟩:=List.mem_iff_getElem.1 h
 simp only [List.length_take] at hi
 rw [List.getElem_take] at e
 unfold List.Nodup at hn
 rw [List.pairwise_iff_getElem] at hn
 exact hn i k (by omega) hk (by omega) e
theorem int_ne_of {a b:UInt64} (h:a≠b):((a.toNat:Int)==(b.toNat:Int))=false:=by
 rw [beq_eq_false_iff_ne]
 intro e
 exact h (UInt64.toNat_inj.1 (by omega))
theorem index_any (a:Option Addr) (len cap:Nat) (ns:List UInt64) (v:UInt64) (hlen:ns.length=len) (w:World) (hl:len≤1000000) (hb:ToldN w a ns) :
  Calls Tryz.prog 222 #[.slice a len cap,.int .u64 (v.toNat:Int)] w fun e w'=>(∃i:Int,e = .returned (.int .i64 i)∧(0≤i↔v∈ns) ∧ -1≤i∧i≤1000000)∧w=w':=by
 have HB:=hid hb
 have HL:=hid hlen
 clear hb hlen
 go_enter Tryz.func222,Tryz.ntmps222
 go_wp2_with fail
 go_loop [8] (fun i => ∃k:Nat,k≤len∧i = .int .i64 (k:Int)∧Hid (v∉ns.take k)) (fun i=>len-(intOf i).toNat)
 case atStart=>exact ⟨0,Nat.zero_le _,rfl,hid (by simp)⟩
 case round =>
  obtain ⟨k,hk,rfl,HN⟩:=hrel
  by_cases hlt:k<len
  ·have hkn:k<ns.length:=by rw [HL.out]; exact hlt
   obtain ⟨b,o,rfl,hH⟩:=HB.out.has (by omega)
   have hc:=hH k hkn
   have HV:=hid (And.intro hkn (show ns[k]?=some ns[k] from List.getElem?_eq_getElem hkn))
   have HS:=hid (show ns.take (k+1)=ns.take k ++ [ns[k]] from List.take_succ_eq_append_getElem hkn)
   have HM:=hid (List.getElem_mem hkn)
   generalize ns[k]=c at hc HV HS HM
   clear hH
   by_cases hvc:v=c
   ·subst hvc
    go_wp2_with fail
    go_ret
    exact ⟨⟨_,rfl,⟨fun _=>HM.out,fun _=>by omega⟩,by omega,by omega⟩,rfl⟩
   ·have ht:=int_ne_of hvc
    have HVC:=hid hvc
    clear hvc
    go_wp2_with fail
    go_round
    case rel=>exact ⟨k+1,by omega,by go_num,hid (by rw [HS.out]; intro h; rcases List.mem_append.1 h with h | h; exact HN.out h; simp at h; exact HVC.out h)⟩
    case measure=>simp [intOf]; omega
  ·go_wp2_with fail
   go_ret
   refine ⟨⟨-1,rfl,⟨fun h=>by omega,fun h => ?_⟩,by omega,by omega⟩,rfl⟩
   have:=HN.out
   rw [List.take_of_length_le (by rw [HL.out]; omega)] at this
   exact absurd h this
theorem contains_any (a:Option Addr) (len cap:Nat) (ns:List UInt64) (v:UInt64) (hlen:ns.length=len) (w:World) (hl:len≤1000000) (hb:ToldN w a ns) :
  Calls Tryz.prog 208 #[.slice a len cap,.int .u64 (v.toNat:Int)] w fun e w'=>e = .returned (.bool (decide (v∈ns)))∧w=w':=by
 have HB:=hid hb
 have HL:=hid hlen
 clear hb hlen
 go_enter Tryz.func208,Tryz.ntmps208
 go_wp2_with fail
 refine (index_any a len cap ns v HL.out _ hl HB.out).mono ?_
 rintro e w' ⟨⟨i,rfl,hi,h1,h2⟩,rfl⟩
 have HI:=hid hi
 clear hi
 go_wp2_with fail
 go_ret
 refine ⟨?_,rfl⟩
 rw [← decide_eq_decide.2 HI.out]
 rfl
set_option maxHeartbeats 400000 in
theorem rising_any (a:Option Addr) (len cap:Nat) (ns:List UInt64) (hlen:ns.length=len) (w:World) (hl:len≤1000000) (hb:ToldN w a ns) :
  Calls Tryz.prog 179 #[.slice a len cap] w fun e w'=>e = .returned (.bool (decide (Rises ns)))∧Still w w':=by
 have HB:=hid hb
 have HL:=hid hlen
 clear hb hlen
 go_enter Tryz.func179,Tryz.ntmps179
 go_wp2_with fail
 go_loopw [3] (fun i wr => ∃k:Nat,1≤k∧(k≤len∨k=1)∧i = .int .i64 (k:Int)∧Hid (Rises (ns.take k))∧Still w wr) (fun i _=>len-(intOf i).toNat)
 case atStart=>exact ⟨1,Nat.le_refl _,.inr rfl,rfl,hid (by
   unfold Rises
   rw [List.pairwise_iff_getElem]
   intro i j hi hj hij
   simp only [List.length_take] at hi hj
   omega),⟨rfl,rfl,rfl,rfl⟩⟩
 case round =>
  obtain ⟨k,hk1,hk,rfl,HN,HS⟩:=hrel
  by_cases hlt:k<len
  ·have hkn:k<ns.length:=by rw [HL.out]; exact hlt
   have hkn1:k-1<ns.length:=by omega
   obtain ⟨b,o,rfl,hH⟩:=HB.out.has (by omega)
   have hc:=(HS.cell _).trans (hH k hkn)
   have hd:=(HS.cell _).trans (hH (k-1) hkn1)
   have H1:=hid (fun hl=>rises_take_succ hk1 hkn HN.out hl)
   have H2:=hid (fun hl=>rises_not hk1 hkn hl)
   have HSt:=hid HS
   have hki:(k:Int)-1=((k-1:Nat):Int):=by omega
   have hcl:=u64_lt ns[k]
   have hdl:=u64_lt ns[k-1]
   generalize ns[k]=c at hc H1 H2 hcl
   generalize ns[k-1]=d at hd H1 H2 hdl
   clear hH HS HN
   by_cases hcd:d.toNat<c.toNat
   ·go_wp2_with fail
    go_quiet (fail)
    go_wp2_with fail
    go_roundw
    case rel=>exact ⟨k+1,by omega,.inl (by omega),by go_num,hid (H1.out hcd),⟨HSt.out.os,HSt.out.tape,HSt.out.output,HSt.out.heap⟩⟩
    case measure=>simp [intOf]; omega
   ·go_wp2_with fail
    go_quiet (fail)
    go_wp2_with fail
    go_ret
    exact ⟨by rw [decide_eq_false (H2.out hcd)]; rfl,⟨HSt.out.os,HSt.out.tape,HSt.out.output,HSt.out.heap⟩⟩
  ·have HSt:=hid HS
   clear HS
   go_wp2_with fail
   go_ret
   have:=HN.out
   rw [List.take_of_length_le (by rw [HL.out]; omega)] at this
   exact ⟨by rw [decide_eq_true this]; rfl,HSt.out⟩
set_option maxHeartbeats 400000 in
theorem kids_any (a:Option Addr) (len cap:Nat) (ns:List UInt64) (hlen:ns.length=len) (hcap:len≤cap) (hm:cap≤maxLen) (w:World) (hl:len≤1000000) (hb:ToldN w a ns) :
  Calls Tryz.prog 180 #[.slice a len cap] w fun e w'=>e = .returned (.bool (decide (Kids ns)))∧w=w':=by
 have HB:=hid hb
 have HL:=hid hlen
 clear hb hlen
 unfold maxLen at hm
 go_enter Tryz.func180,Tryz.ntmps180
 go_wp2_with fail
 go_loop [7] (fun i => ∃k:Nat,k≤len∧i = .int .i64 (k:Int)∧Hid (Kids (ns.take k))) (fun i=>len-(intOf i).toNat)
 case atStart=>exact ⟨0,Nat.zero_le _,rfl,hid ⟨fun v hv=>by simp at hv,by simp⟩⟩
 case round =>
  obtain ⟨k,hk,rfl,HN⟩:=hrel
  by_cases hlt:k<len
  ·have hkn:k<ns.length:=by rw [HL.out]; exact hlt
   obtain ⟨b,o,rfl,hH⟩:=HB.out.has (by omega)
   have hc:=hH k hkn
   have hP:=hid ((hH.pre k).told)
   have hPl:=hid (show (ns.take k).length=k by simp; omega)
   have H1:=hid (fun a b c=>kids_take_succ hkn HN.out a b c)
   have H2:=hid (fun h=>kids_not1 hkn h)
   have H3:=hid (fun h=>kids_not2 hkn h)
   have hcl:=u64_lt ns[k]
   generalize ns[k]=c at hc H1 H2 H3 hcl
   clear hH HN
   by_cases h1:1≤c.toNat
   ·by_cases h2:c.toNat<4096
    ·go_wp2_with fail
     refine (contains_any _ k cap (ns.take k) c hPl.out _ (by omega) hP.out).mono ?_
     rintro e w' ⟨rfl,rfl⟩
     by_cases h3:c∈ns.take k
     ·rw [decide_eq_true h3]
      go_wp2_with fail
      go_ret
      exact ⟨by rw [decide_eq_false (H3.out h3)]; rfl,rfl⟩
     ·rw [decide_eq_false h3]
      have H4:=hid (H1.out h1 h2 h3)
      clear h3
      go_wp2_with fail
      go_round
      case rel=>exact ⟨k+1,by omega,by go_num,H4⟩
      case measure=>simp [intOf]; omega
    ·have H4:=hid (H2.out (fun h=>h2 h.2))
     go_wp2_with fail
     go_ret
     exact ⟨by rw [decide_eq_false H4.out]; rfl,rfl⟩
   ·have H4:=hid (H2.out (fun h=>h1 h.1))
    go_wp2_with fail
    go_ret
    exact ⟨by rw [decide_eq_false H4.out]; rfl,rfl⟩
  ·go_wp2_with fail
   go_ret
   have:=HN.out
   rw [List.take_of_length_le (by rw [HL.out]; omega)] at this
   exact ⟨by rw [decide_eq_true this]; rfl,rfl⟩
structure FreshN (w w':World) (g:Nat) (ns:List UInt64):Prop where
 below:Below w.heap.size w w'
 lo:w.heap.size≤g
 hi:g<w'.heap.size
 row:RowN w' g 30 ns
end Go.Proofs.YtogchamogbendaaGreat.Lf
namespace Go.Proofs.YtogchamogbendaaGreat.Lf
open Lib (hid)
open Go.RowKit Oct
def Fit (l:Bool) (ks vs:List UInt64):Prop:=ks.length≤7∧vs.length=ks.length∧Rises ks∧(l=true∨(0<ks.length∧Kids vs))
instance (l:Bool) (ks vs:List UInt64):Decidable (Fit l ks vs):=by unfold Fit; infer_instance
structure Nd (w:World) (A:Option Addr) (n c:Nat) (B:Option Addr) (m d:Nat) (ks vs:List UInt64):Prop where
 kl:ks.length=n
 vl:vs.length=m
 kc:n≤c
 km:c≤maxLen
 vc:m≤d
 vm:d≤maxLen
 ks:ToldN w A ks
 vs:ToldN w B vs
theorem Nd.below {w w':World} {A B:Option Addr} {n c m d:Nat} {ks vs:List UInt64} (h:Nd w A n c B m d ks vs) (k:Below w.heap.size w w'):Nd w' A n c B m d ks vs:=⟨h.kl,h.vl,h.kc,h.km,h.vc,h.vm,h.ks.below k,h.vs.below k⟩
theorem Nd.boxed {w:World} {A B:Option Addr} {n c m d:Nat} {ks vs:List UInt64} (h:Nd w A n c B m d ks vs) (o:Obj):Nd (w.alloc o) A n c B m d ks vs:=h.below ((Below.refl _ _).alloc (Nat.le_refl _) _)
theorem Nd.still {w w':World} {A B:Option Addr} {n c m d:Nat} {ks vs:List UInt64} (h:Nd w A n c B m d ks vs) (S:Still w w'):Nd w' A n c B m d ks vs:=⟨h.kl,h.vl,h.kc,h.km,h.vc,h.vm,h.ks.still S,h.vs.still S⟩
theorem fit_leaf {ks vs:List UInt64} (h1:ks.length≤7) (h2:vs.length=ks.length) (h3:Rises ks):Fit true ks vs:=⟨h1,h2,h3,.inl rfl⟩
theorem fit_inner {ks vs:List UInt64} (h1:ks.length≤7) (h2:vs.length=ks.length) (h3:Rises ks) (h4:0<ks.length):decide (Fit false ks vs)=decide (Kids vs) :=
 decide_eq_decide.2 ⟨fun h=>by rcases h.2.2.2 with h | h; cases h; exact h.2,fun h=>⟨h1,h2,h3,.inr ⟨h4,h⟩⟩⟩
theorem fit_bare {ks vs:List UInt64} (h4 : ¬0<ks.length) : ¬Fit false ks vs:=fun h=>by
 rcases h.2.2.2 with h | h
 ·cases h
 ·exact h4 h.1
theorem box_cell (w:World) (xs:Array Value) (T:TypeId) (i:Nat) (v:Value) (h:xs[i]?=some v):(w.alloc (.cells xs T)).cell? ⟨w.heap.size,i,none⟩=some v:=by
 have:=heap_alloc_new w (.cells xs T)
 generalize w.alloc (.cells xs T)=w' at this
 simp [World.cell?,this,h]
set_option maxHeartbeats 800000 in
theorem right_any (l:Bool) {w:World} {A B:Option Addr} {n c m d:Nat} {ks vs:List UInt64} (h:Nd w A n c B m d ks vs) (hn:n≤1000) (hm:m≤1000) :
  Calls Tryz.prog 121 #[.agg #[.bool l,.slice A n c,.slice B m d]] w fun e w'=>e = .returned (.bool (decide (Fit l ks vs)))∧Below w.heap.size w w':=by
 have HD:=hid h
 have hnk:ks.length=n:=h.kl
 have hvk:vs.length=m:=h.vl
 have HF:=hid (show Fit l ks vs↔(n≤7∧m=n∧Rises ks∧(l=true∨(0<n∧Kids vs))) by unfold Fit; rw [hnk,hvk])
 clear h hnk hvk
 have HB1:=hid (HD.out.boxed (.cells #[.bool l,.slice A n c,.slice B m d] 107))
 have BB:=hid ((Below.refl w.heap.size w).alloc (Nat.le_refl _) (.cells #[.bool l,.slice A n c,.slice B m d] 107))
 by_cases h1:n≤7
 ·by_cases h2:m=n
  ·subst h2
   have hmm:((m:Int) != (m:Int))=false:=by simp
   go_enter Tryz.func121,Tryz.ntmps121
   go_wp2_with fail
   refine (rising_any A m c ks HD.out.kl _ (by omega) HB1.out.ks).mono ?_
   rintro e w2 ⟨rfl,S2⟩
   by_cases h3:Rises ks
   ·rw [decide_eq_true h3]
    have e0:=(S2.cell ⟨w.heap.size,0,none⟩).trans (box_cell w _ _ 0 _ rfl)
    have e1:=(S2.cell ⟨w.heap.size,1,none⟩).trans (box_cell w _ _ 1 _ rfl)
    have e2:=(S2.cell ⟨w.heap.size,2,none⟩).trans (box_cell w _ _ 2 _ rfl)
    have HB2:=hid (HB1.out.still S2)
    have BB2:=hid (BB.out.trans (S2.below _))
    clear S2
    cases l with
    | true =>
     go_wp2_with fail
     go_ret
     exact ⟨by rw [decide_eq_true (fit_leaf (by rw [HD.out.kl]; exact h1) (HD.out.vl.trans HD.out.kl.symm) h3)]; rfl,BB2.out⟩
    | false =>
     by_cases h4:0<m
     ·go_wp2_with fail
      refine (kids_any B m d vs HD.out.vl HD.out.vc HD.out.vm _ (by omega) HB2.out.vs).mono ?_
      rintro e w3 ⟨rfl,rfl⟩
      go_wp2_with fail
      go_ret
      refine ⟨?_,BB2.out⟩
      rw [fit_inner (by rw [HD.out.kl]; exact h1) (HD.out.vl.trans HD.out.kl.symm) h3 (by rw [HD.out.kl]; exact h4)]
      rfl
     ·go_wp2_with fail
      go_ret
      exact ⟨by rw [decide_eq_false (fit_bare (by rw [HD.out.kl]; exact h4))]; rfl,BB2.out⟩
   ·rw [decide_eq_false h3]
    go_wp2_with fail
    go_ret
    exact ⟨by rw [decide_eq_false (fun hf=>h3 (HF.out.1 hf).2.2.1)]; rfl,BB.out.trans (S2.below _)⟩
  ·have hmm:((m:Int) != (n:Int))=true:=by rw [bne_iff_ne]; omega
   go_enter Tryz.func121,Tryz.ntmps121
   go_wp2_with fail
   go_ret
   exact ⟨by rw [decide_eq_false (fun hf=>h2 (HF.out.1 hf).2.1)]; rfl,BB.out⟩
 ·go_enter Tryz.func121,Tryz.ntmps121
  go_wp2_with fail
  go_ret
  exact ⟨by rw [decide_eq_false (fun hf=>h1 (HF.out.1 hf).1)]; rfl,BB.out⟩
end Go.Proofs.YtogchamogbendaaGreat.Lf
namespace Go.Proofs.YtogchamogbendaaGreat.Lf
open Lib (hid)
open Go.RowKit Oct
def kindN (l:Bool):UInt8:=if l then 1 else 2
theorem kind_any (l:Bool) (A B:Value) (w:World) :
  Calls Tryz.prog 126 #[.agg #[.bool l,A,B]] w fun e w'=>e = .returned (.int .u8 ((kindN l).toNat:Int))∧Below w.heap.size w w':=by
 have BB:=hid ((Below.refl w.heap.size w).alloc (Nat.le_refl _) (.cells #[.bool l,A,B] 107))
 cases l with
 | true =>
  go_enter Tryz.func126,Tryz.ntmps126
  go_wp2_with fail
  go_ret
  exact ⟨rfl,BB.out⟩
 | false =>
  go_enter Tryz.func126,Tryz.ntmps126
  go_wp2_with fail
  go_ret
  exact ⟨rfl,BB.out⟩
structure Apart (w w':World) (p q:Nat):Prop where
 os:w'.os=w.os
 tape:w'.tape=w.tape
 output:w'.output=w.output
 size:w'.heap.size=w.heap.size
 block : ∀k,k≠p→k≠q→w'.heap[k]?=w.heap[k]?
theorem Apart.below {w w':World} {p q B:Nat} (h:Apart w w' p q) (hp:B≤p) (hq:B≤q):Below B w w':=⟨h.os,h.tape,h.output,by rw [h.size]; exact Nat.le_refl _,fun k hk=>h.block k (by omega) (by omega)⟩
theorem Apart.rowN {w w':World} {p q g:Nat} {T:TypeId} {ns:List UInt64} (h:Apart w w' p q) (R:RowN w g T ns) (hp:g≠p) (hq:g≠q):RowN w' g T ns:=by
 unfold RowN at *
 rw [h.block g hp hq,R]
structure Pen (w:World) (bb ab g:Nat) (P:List UInt8):Prop where
 cb:w.cell? ⟨bb,0,none⟩=some (.slice (some ⟨g,0,none⟩) 123 123)
 ca:w.cell? ⟨ab,0,none⟩=some (.int .i64 (P.length:Int))
 fa:w.frozen? ⟨ab,0,none⟩=false
 has:Has w g 0 (P++List.replicate (123-P.length) 0)
 free:Free w g 0 123
 le:P.length≤123
 n1:bb≠g
 n2:ab≠g
 n3:bb≠ab
theorem pen_splice (P X:List UInt8) (s:Nat) (hX:X.length=s) (h:P.length+s≤123) :
  (P++List.replicate (123-P.length) 0).take P.length++X++(P++List.replicate (123-P.length) 0).drop (P.length+s)=(P++X)++List.replicate (123-(P++X).length) 0:=by
 rw [List.take_append_of_le_length (Nat.le_refl _),List.take_length,List.drop_append,List.drop_of_length_le (by omega),List.nil_append,List.length_append,hX,List.drop_replicate]
 congr 2
 omega
set_option maxHeartbeats 400000 in
theorem enc1 {w:World} {bb ab g:Nat} {P:List UInt8} (h:Pen w bb ab g P) (x:UInt64) (s:Nat) (h1:1≤s) (h8:s≤8) (hs:P.length+s≤123) (hx:x.toNat<256 ^ s) :
  Calls Tryz.prog 123 #[.int .u64 (x.toNat:Int),.int .i64 (s:Int),.pointer (some ⟨bb,0,none⟩),.pointer (some ⟨ab,0,none⟩)] w fun e w'=>e = .returned (.int .u64 (x.toNat:Int))∧Pen w' bb ab g (P++bytesOf x.toNat s)∧Apart w w' g ab:=by
 have HP:=hid h
 have c1:=h.cb
 have c2:=h.ca
 have hle:=h.le
 clear h
 go_enter Tryz.func123,Tryz.ntmps123
 go_wp2_with fail
 have HL:=hid (show (P++List.replicate (123-P.length) 0).length=123 by simp; omega)
 have hput:=put_yes g 0 123 (P++List.replicate (123-P.length) 0) P.length s x.toNat w (by rw [HL.out]; decide) HP.out.has (by rw [HL.out]; exact HP.out.free) h1 h8 (by rw [HL.out]; exact hs) hx
 rw [HL.out] at hput
 refine hput.mono ?_
 rintro e w2 ⟨rfl,D⟩
 have c3:=(D.wrote.other HP.out.n2 0).trans HP.out.ca
 have f3:=(D.wrote.frz ⟨ab,0,none⟩).trans HP.out.fa
 have HD:=hid D
 clear D hput
 go_wp2_with fail
 go_ret
 have hlen:(bytesOf x.toNat s).length=s:=length_bytesOf s x.toNat
 refine ⟨rfl,⟨?_,?_,?_,?_,?_,?_,HP.out.n1,HP.out.n2,HP.out.n3⟩,⟨HD.out.wrote.os,HD.out.wrote.tape,HD.out.wrote.output,by simp [HD.out.wrote.size],fun k hk hk2=>(heap_setCell_other _ _ _ _ hk2).trans (HD.out.wrote.block k hk)⟩⟩
 ·have hne:(⟨ab,0,none⟩:Addr)≠⟨bb,0,none⟩:=fun e=>HP.out.n3 (Addr.mk.inj e).1.symm
  rw [World.cell?_setCell_other _ _ _ _ hne]
  exact (HD.out.wrote.other HP.out.n1 0).trans HP.out.cb
 ·rw [set_same c3,List.length_append,hlen]
  simp
 ·simp [f3]
 ·rw [← pen_splice P _ s hlen hs]
  intro i hi
  have hne:(⟨ab,0,none⟩:Addr)≠⟨g,0+i,none⟩:=fun e=>HP.out.n2 (Addr.mk.inj e).1
  rw [World.cell?_setCell_other _ _ _ _ hne]
  exact HD.out.has i hi
 ·intro i hi
  have:=(HD.out.wrote.frz ⟨g,0+i,none⟩).trans (HP.out.free i hi)
  simpa using this
 ·rw [List.length_append,hlen]; exact hs
structure Book (w:World) (bb ab g at':Nat) (bs:List UInt8):Prop where
 cb:w.cell? ⟨bb,0,none⟩=some (.slice (some ⟨g,0,none⟩) 123 123)
 ca:w.cell? ⟨ab,0,none⟩=some (.int .i64 (at':Int))
 fa:w.frozen? ⟨ab,0,none⟩=false
 has:Has w g 0 bs
 len:bs.length=123
 n2:ab≠g
 n3:bb≠ab
set_option maxHeartbeats 400000 in
theorem dec1 {w:World} {bb ab g p:Nat} {bs:List UInt8} (h:Book w bb ab g p bs) (x:Value) (s:Nat) (h1:1≤s) (h8:s≤8) (hs:p+s≤123) :
  Calls Tryz.prog 175 #[x,.int .i64 (s:Int),.pointer (some ⟨bb,0,none⟩),.pointer (some ⟨ab,0,none⟩)] w fun e w'=>e = .returned (.int .u64 ((UInt64.ofNat (num ((bs.drop p).take s))).toNat:Int))∧Book w' bb ab g (p+s) bs∧Apart w w' ab ab:=by
 have HP:=hid h
 have c1:=h.cb
 have c2:=h.ca
 have f2:=h.fa
 have hlen:=h.len
 have HN:=hid (show (((UInt64.ofNat (num ((bs.drop p).take s))).toNat:Nat):Int)=(num ((bs.drop p).take s):Int) by
  have:=num_lt8 ((bs.drop p).take s) (by simp; omega)
  have:(UInt64.ofNat (num ((bs.drop p).take s))).toNat=num ((bs.drop p).take s):=by simp; omega
  rw [this])
 clear h
 go_enter Tryz.func175,Tryz.ntmps175
 go_wp2_with fail
 have hget:=get_yes g 0 123 bs p s w (by rw [hlen]; decide) HP.out.has h1 h8 (by rw [hlen]; exact hs)
 rw [hlen] at hget
 refine hget.mono ?_
 rintro e w2 ⟨rfl,rfl⟩
 clear hget hlen
 go_wp2_with fail
 go_ret
 refine ⟨by rw [HN.out]; rfl,⟨?_,?_,?_,?_,HP.out.len,HP.out.n2,HP.out.n3⟩,⟨rfl,rfl,rfl,by simp,fun k hk hk2=>heap_setCell_other _ _ _ _ hk2⟩⟩
 ·have hne:(⟨ab,0,none⟩:Addr)≠⟨bb,0,none⟩:=fun e=>HP.out.n3 (Addr.mk.inj e).1.symm
  rw [World.cell?_setCell_other _ _ _ _ hne]
  exact HP.out.cb
 ·rw [set_same c2]
  simp
 ·simp [f2]
 ·intro i hi
  have hne:(⟨ab,0,none⟩:Addr)≠⟨g,0+i,none⟩:=fun e=>HP.out.n2 (Addr.mk.inj e).1
  rw [World.cell?_setCell_other _ _ _ _ hne]
  exact HP.out.has i hi
end Go.Proofs.YtogchamogbendaaGreat.Lf
namespace Go.Proofs.YtogchamogbendaaGreat.Lf
open Lib (hid)
open Go.RowKit Oct
def pairs:List UInt64→List UInt64→List UInt8
 | k :: ks,v :: vs=>bytesOf k.toNat 8++bytesOf v.toNat 8++pairs ks vs
 | _,_ => []
theorem pairs_snoc (ks vs:List UInt64) (h:ks.length=vs.length) (a b:UInt64):pairs (ks ++ [a]) (vs ++ [b])=pairs ks vs++bytesOf a.toNat 8++bytesOf b.toNat 8:=by
 induction ks generalizing vs with
 | nil =>
  cases vs with
  | nil=>simp [pairs]
  | cons v vs=>cases h
 | cons k ks ih =>
  cases vs with
  | nil=>cases h
  | cons v vs =>
   simp only [List.cons_append,pairs]
   rw [ih vs (by simpa using h)]
   simp [List.append_assoc]
theorem length_pairs (ks vs:List UInt64) (h:ks.length=vs.length):(pairs ks vs).length=16*ks.length:=by
 induction ks generalizing vs with
 | nil=>cases vs <;> rfl
 | cons k ks ih =>
  cases vs with
  | nil=>cases h
  | cons v vs =>
   simp only [pairs,List.length_append,length_bytesOf,List.length_cons]
   rw [ih vs (by simpa using h)]
   omega
def content (c:UInt64) (ks vs:List UInt64):List UInt64:=c :: (ks++vs)
theorem content_key (c:UInt64) (ks vs:List UInt64) (h:ks.length=7) (i:Nat) (hi:i<7):(content c ks vs)[1+i]?=some (ks[i]'(by omega)):=by
 rw [Nat.add_comm]
 simp only [content,List.getElem?_cons_succ]
 rw [List.getElem?_append_left (by omega),List.getElem?_eq_getElem]
theorem content_val (c:UInt64) (ks vs:List UInt64) (h:ks.length=7) (h':vs.length=7) (i:Nat) (hi:i<7):(content c ks vs)[8+i]?=some (vs[i]'(by omega)):=by
 rw [show 8+i=(7+i)+1 by omega]
 simp only [content,List.getElem?_cons_succ]
 rw [List.getElem?_append_right (by omega),h,show 7+i-7=i by omega,List.getElem?_eq_getElem]
theorem set_same_at (l:List UInt64) (i:Nat) (v:UInt64) (h:l[i]?=some v):l.set i v=l:=by
 obtain ⟨hi,e⟩:=List.getElem?_eq_some_iff.1 h
 subst e
 exact List.set_getElem_self hi
theorem RowN.cellAt {w:World} {g i:Nat} {T:TypeId} {ns:List UInt64} {v:UInt64} (h:RowN w g T ns) (hv:ns[i]?=some v):w.cell? ⟨g,i,none⟩=some (.int .u64 (v.toNat:Int)):=by
 obtain ⟨hi,e⟩:=List.getElem?_eq_some_iff.1 hv
 have:=h.has i hi
 rw [Nat.zero_add,e] at this
 exact this
theorem RowN.back {w:World} {g i:Nat} {T:TypeId} {ns:List UInt64} {v:UInt64} (h:RowN w g T ns) (hv:ns[i]?=some v):RowN (w.setCell ⟨g,i,none⟩ (.int .u64 (v.toNat:Int))) g T ns:=by
 have:=h.set i v
 rwa [set_same_at ns i v hv] at this
theorem Pen.other {w:World} {bb ab g q:Nat} {P:List UInt8} (h:Pen w bb ab g P) (i:Nat) (v:Value) (h1:q≠bb) (h2:q≠ab) (h3:q≠g):Pen (w.setCell ⟨q,i,none⟩ v) bb ab g P:=by
 have hc : ∀b j,q≠b→(w.setCell ⟨q,i,none⟩ v).cell? ⟨b,j,none⟩=w.cell? ⟨b,j,none⟩:=fun b j hb=>World.cell?_setCell_other _ _ _ _ (fun e=>hb (Addr.mk.inj e).1)
 exact ⟨(hc _ _ h1).trans h.cb,(hc _ _ h2).trans h.ca,by simp [h.fa],fun j hj=>(hc _ _ h3).trans (h.has j hj),fun j hj=>by simpa using h.free j hj,h.le,h.n1,h.n2,h.n3⟩
theorem Pen.still {w w':World} {bb ab g:Nat} {P:List UInt8} (h:Pen w bb ab g P) (S:Still w w'):Pen w' bb ab g P :=
 ⟨(S.cell _).trans h.cb,(S.cell _).trans h.ca,(S.frozen _).trans h.fa,h.has.still S,fun j hj=>(S.frozen _).trans (h.free j hj),h.le,h.n1,h.n2,h.n3⟩
theorem Still.drew (w:World):Still w w.drew:=⟨rfl,rfl,rfl,rfl⟩
set_option maxHeartbeats 1000000 in
theorem each_enc {w:World} {bb ab g q B:Nat} {c:UInt64} {ks vs:List UInt64} (h:Pen w bb ab g []) (R:RowN w q 201 (content c ks vs)) (hk:ks.length=7) (hv:vs.length=7) (hc:c.toNat<256)
  (h1:q≠bb) (h2:q≠ab) (h3:q≠g) (hq:B≤q) (hg:B≤g) (ha:B≤ab) :
  Calls Tryz.prog 122 #[.pointer (some ⟨q,0,none⟩),.func (.func 123) #[] #[.pointer (some ⟨bb,0,none⟩),.pointer (some ⟨ab,0,none⟩)]] w fun e w'=>e = .returned (.tuple #[])∧Pen w' bb ab g (bytesOf c.toNat 1++pairs ks vs)∧Below B w w':=by
 have HP:=hid h
 have HR:=hid R
 have hc0:(content c ks vs)[0]?=some c:=rfl
 have r0:=R.cellAt hc0
 have r1:=R.free 0
 have HC:=hid hc
 clear h R hc
 go_enter Tryz.func122,Tryz.ntmps122
 go_wp2_with fail
 refine (enc1 HP.out c 1 (by omega) (by omega) (by simp) (by simpa using HC.out)).mono ?_
 rintro e w2 ⟨rfl,P2,A2⟩
 rw [List.nil_append] at P2
 have R2:=A2.rowN HR.out h3 h2
 have r2:=R2.cellAt hc0
 have f2:=R2.free 0
 have R3:=hid (R2.back hc0)
 have P3:=hid (P2.other 0 (.int .u64 (c.toNat:Int)) h1 h2 h3)
 have B3:=hid ((A2.below hg ha).setCell (p:=⟨q,0,none⟩) hq (.int .u64 (c.toNat:Int)))
 clear P2 A2 R2 r0 r1 HP HR HC hc0
 go_wp2_with fail
 go_loopw [14] (fun i wr => ∃k:Nat,k≤7∧i = .int .i64 (k:Int)∧Hid (RowN wr q 201 (content c ks vs))∧Hid (Pen wr bb ab g (bytesOf c.toNat 1++pairs (ks.take k) (vs.take k)))∧Hid (Below B w wr)) (fun i _=>7-(intOf i).toNat)
 case atStart=>exact ⟨0,by omega,rfl,R3,hid (by simpa [pairs] using P3.out),B3⟩
 case round =>
  obtain ⟨k,hk7,rfl,HR,HP,HB⟩:=hrel
  by_cases hlt:k<7
  ·have e1:=content_key c ks vs hk k hlt
   have e2:=content_val c ks vs hk hv k hlt
   have HL:=hid (show (bytesOf c.toNat 1++pairs (ks.take k) (vs.take k)).length=1+16*k by
    rw [List.length_append,length_bytesOf,length_pairs _ _ (by simp; omega)]; simp; omega)
   have HSN:=hid (show bytesOf c.toNat 1++pairs (ks.take k) (vs.take k)++bytesOf (ks[k]'(by omega)).toNat 8++bytesOf (vs[k]'(by omega)).toNat 8=bytesOf c.toNat 1++pairs (ks.take (k+1)) (vs.take (k+1)) by
    rw [List.take_succ_eq_append_getElem (by omega:k<ks.length),List.take_succ_eq_append_getElem (by omega:k<vs.length),pairs_snoc _ _ (by simp; omega)]
    simp [List.append_assoc])
   generalize ks[k]'(by omega)=x at e1 HSN
   generalize vs[k]'(by omega)=y at e2 HSN
   have k1:=HR.out.cellAt e1
   have k1f:=HR.out.free (1+k)
   have HP2:=hid (HP.out.still (Still.drew wr))
   have HR2:=hid (HR.out.still (Still.drew wr))
   have HB2:=hid (HB.out.trans ((Still.drew wr).below B))
   have HL8:=hid (show (bytesOf c.toNat 1++pairs (ks.take k) (vs.take k)).length+8≤123 by rw [HL.out]; omega)
   have hx:=hid (show x.toNat<256 ^ 8 from u64_lt x)
   have hy:=hid (show y.toNat<256 ^ 8 from u64_lt y)
   go_wp2_with fail
   go_region_with (go_at_call 123; refine (enc1 HP2.out x 8 (by decide) (by decide) HL8.out hx.out).mono ?_; rintro e w3 ⟨rfl,P3,A3⟩; have R3:=A3.rowN HR2.out h3 h2; have r3:=R3.cellAt e1; have f3:=R3.free (1+k); have HR3:=hid (R3.back e1); have HP3:=hid (P3.other (1+k) (.int .u64 (x.toNat:Int)) h1 h2 h3); have HB3:=hid ((HB2.out.trans (A3.below hg ha)).setCell (p:=⟨q,1+k,none⟩) hq (.int .u64 (x.toNat:Int))); clear P3 A3 R3)
   generalize w3.setCell ⟨q,1+k,none⟩ (.int .u64 (x.toNat:Int))=w4 at *
   have k2:=HR3.out.cellAt e2
   have k2f:=HR3.out.free (8+k)
   have HP4:=hid (HP3.out.still (Still.drew w4))
   have HR4:=hid (HR3.out.still (Still.drew w4))
   have HB4:=hid (HB3.out.trans ((Still.drew w4).below B))
   have HL9:=hid (show (bytesOf c.toNat 1++pairs (ks.take k) (vs.take k)++bytesOf x.toNat 8).length+8≤123 by rw [List.length_append,HL.out,length_bytesOf]; omega)
   clear HP2 HR2 HB2 HP HR HB k1 k1f r3 f3 e1 HP3 HR3 HB3
   go_wp2_with fail
   go_region_with (go_at_call 123; refine (enc1 HP4.out y 8 (by decide) (by decide) HL9.out hy.out).mono ?_; rintro e w5 ⟨rfl,P5,A5⟩; have R5:=A5.rowN HR4.out h3 h2; have r5:=R5.cellAt e2; have f5:=R5.free (8+k); have HR5:=hid (R5.back e2); have HP5:=hid (P5.other (8+k) (.int .u64 (y.toNat:Int)) h1 h2 h3); have HB5:=hid ((HB4.out.trans (A5.below hg ha)).setCell (p:=⟨q,8+k,none⟩) hq (.int .u64 (y.toNat:Int))); clear P5 A5 R5)
   generalize w5.setCell ⟨q,8+k,none⟩ (.int .u64 (y.toNat:Int))=w6 at *
   clear k2 k2f HP4 HR4 HB4 e2 r5 f5
   go_wp2_with fail
   go_roundw
   case rel=>exact ⟨k+1,by omega,by go_num,HR5,hid (by have:=HP5.out; rwa [HSN.out] at this),HB5⟩
   case measure=>simp [intOf]; omega
  ·obtain rfl:k=7:=by omega
   go_wp2_with fail
   go_end0
   have hp:=HP.out
   rw [List.take_of_length_le (by omega),List.take_of_length_le (by omega)] at hp
   exact ⟨rfl,hp,HB.out⟩
end Go.Proofs.YtogchamogbendaaGreat.Lf
namespace Go.Proofs.YtogchamogbendaaGreat.Lf
open Lib (hid)
open Go.RowKit Oct
def kAt (bs:List UInt8) (j:Nat):UInt64:=UInt64.ofNat (num ((bs.drop (1+16*j)).take 8))
def vAt (bs:List UInt8) (j:Nat):UInt64:=UInt64.ofNat (num ((bs.drop (9+16*j)).take 8))
def cAt (bs:List UInt8):UInt64:=UInt64.ofNat (num ((bs.drop 0).take 1))
def upTo (f:Nat→UInt64) (k:Nat):List UInt64:=(List.range 7).map fun j=>if j<k then f j else 0
theorem length_upTo (f:Nat→UInt64) (k:Nat):(upTo f k).length=7:=by simp [upTo]
theorem upTo_zero (f:Nat→UInt64):upTo f 0=List.replicate 7 0:=rfl
theorem upTo_set (f:Nat→UInt64) (k:Nat) (hk:k<7):(upTo f k).set k (f k)=upTo f (k+1):=by
 apply List.ext_getElem
 ·simp [upTo]
 ·intro i h1 h2
  rw [List.getElem_set]
  by_cases h:k=i
  ·subst h
   simp [upTo]
  ·simp only [h,if_false,upTo,List.getElem_map,List.getElem_range]
   by_cases h3:i<k
   ·rw [if_pos h3,if_pos (by omega)]
   ·rw [if_neg h3,if_neg (by omega)]
theorem upTo_seven (f:Nat→UInt64) (n:Nat) (hn:n≤7):(upTo f 7).take n=(List.range n).map f:=by
 apply List.ext_getElem
 ·simp [upTo]; omega
 ·intro i h1 h2
  simp at h1 h2
  simp [upTo]
  omega
theorem content_setk (c:UInt64) (ks vs:List UInt64) (h:ks.length=7) (i:Nat) (hi:i<7) (v:UInt64):(content c ks vs).set (1+i) v=content c (ks.set i v) vs:=by
 rw [Nat.add_comm]
 simp only [content,List.set_cons_succ]
 rw [List.set_append_left _ _ (by omega)]
theorem content_setv (c:UInt64) (ks vs:List UInt64) (h:ks.length=7) (i:Nat) (hi:i<7) (v:UInt64):(content c ks vs).set (8+i) v=content c ks (vs.set i v):=by
 rw [show 8+i=(7+i)+1 by omega]
 simp only [content,List.set_cons_succ]
 rw [List.set_append_right _ _ (by omega),h,show 7+i-7=i by omega]
theorem Book.other {w:World} {bb ab g q p:Nat} {bs:List UInt8} (h:Book w bb ab g p bs) (i:Nat) (v:Value) (h1:q≠bb) (h2:q≠ab) (h3:q≠g):Book (w.setCell ⟨q,i,none⟩ v) bb ab g p bs:=by
 have hc : ∀b j,q≠b→(w.setCell ⟨q,i,none⟩ v).cell? ⟨b,j,none⟩=w.cell? ⟨b,j,none⟩:=fun b j hb=>World.cell?_setCell_other _ _ _ _ (fun e=>hb (Addr.mk.inj e).1)
 exact ⟨(hc _ _ h1).trans h.cb,(hc _ _ h2).trans h.ca,by simp [h.fa],fun j hj=>(hc _ _ h3).trans (h.has j hj),h.len,h.n2,h.n3⟩
theorem Book.still {w w':World} {bb ab g p:Nat} {bs:List UInt8} (h:Book w bb ab g p bs) (S:Still w w'):Book w' bb ab g p bs :=
 ⟨(S.cell _).trans h.cb,(S.cell _).trans h.ca,(S.frozen _).trans h.fa,h.has.still S,h.len,h.n2,h.n3⟩
theorem dec_c {w:World} {bb ab g:Nat} {bs:List UInt8} (h:Book w bb ab g 0 bs) (x:Value) :
  Calls Tryz.prog 175 #[x,.int .i64 1,.pointer (some ⟨bb,0,none⟩),.pointer (some ⟨ab,0,none⟩)] w fun e w'=>e = .returned (.int .u64 ((cAt bs).toNat:Int))∧Book w' bb ab g 1 bs∧Apart w w' ab ab :=
 dec1 h x 1 (by omega) (by omega) (by omega)
theorem dec_k {w:World} {bb ab g k:Nat} {bs:List UInt8} (h:Book w bb ab g (1+16*k) bs) (hk:k<7) (x:Value) :
  Calls Tryz.prog 175 #[x,.int .i64 8,.pointer (some ⟨bb,0,none⟩),.pointer (some ⟨ab,0,none⟩)] w fun e w'=>e = .returned (.int .u64 ((kAt bs k).toNat:Int))∧Book w' bb ab g (9+16*k) bs∧Apart w w' ab ab:=by
 have:=dec1 h x 8 (by omega) (by omega) (by omega)
 rwa [show 1+16*k+8=9+16*k by omega] at this
theorem dec_v {w:World} {bb ab g k:Nat} {bs:List UInt8} (h:Book w bb ab g (9+16*k) bs) (hk:k<7) (x:Value) :
  Calls Tryz.prog 175 #[x,.int .i64 8,.pointer (some ⟨bb,0,none⟩),.pointer (some ⟨ab,0,none⟩)] w fun e w'=>e = .returned (.int .u64 ((vAt bs k).toNat:Int))∧Book w' bb ab g (1+16*(k+1)) bs∧Apart w w' ab ab:=by
 have:=dec1 h x 8 (by omega) (by omega) (by omega)
 rwa [show 9+16*k+8=1+16*(k+1) by omega] at this
theorem Apart.trans {w w' w'':World} {p q:Nat} (h:Apart w w' p q) (k:Apart w' w'' p q):Apart w w'' p q:=⟨k.os.trans h.os,k.tape.trans h.tape,k.output.trans h.output,k.size.trans h.size,fun i h1 h2=>(k.block i h1 h2).trans (h.block i h1 h2)⟩
theorem Apart.wide {w w':World} {p q:Nat} (h:Apart w w' q q):Apart w w' p q:=⟨h.os,h.tape,h.output,h.size,fun k _ hk=>h.block k hk hk⟩
theorem Apart.set {w w':World} {p q:Nat} (h:Apart w w' p q) (i:Nat) (v:Value):Apart w (w'.setCell ⟨p,i,none⟩ v) p q:=⟨h.os,h.tape,h.output,by simp [h.size],fun k hk hk2=>(heap_setCell_other _ _ _ _ hk).trans (h.block k hk hk2)⟩
theorem Apart.still {w w' w'':World} {p q:Nat} (h:Apart w w' p q) (S:Still w' w''):Apart w w'' p q:=⟨S.os.trans h.os,S.tape.trans h.tape,S.output.trans h.output,(by rw [S.heap]; exact h.size),fun k hk hk2=>(by rw [S.heap]; exact h.block k hk hk2)⟩
set_option maxHeartbeats 1000000 in
theorem each_dec {w:World} {bb ab g q:Nat} {bs:List UInt8} (h:Book w bb ab g 0 bs) (R:RowN w q 201 (content 0 (upTo (kAt bs) 0) (upTo (vAt bs) 0)))
  (h1:q≠bb) (h2:q≠ab) (h3:q≠g) :
  Calls Tryz.prog 122 #[.pointer (some ⟨q,0,none⟩),.func (.func 175) #[] #[.pointer (some ⟨bb,0,none⟩),.pointer (some ⟨ab,0,none⟩)]] w fun e w'=>e = .returned (.tuple #[])∧RowN w' q 201 (content (cAt bs) (upTo (kAt bs) 7) (upTo (vAt bs) 7))∧Apart w w' q ab:=by
 have HP:=hid h
 have HR:=hid R
 have r0:=R.cellAt (i:=0) (v:=0) rfl
 clear h R
 go_enter Tryz.func122,Tryz.ntmps122
 go_wp2_with fail
 refine (dec_c HP.out _).mono ?_
 rintro e w2 ⟨rfl,P2,A2⟩
 have R2:=A2.rowN HR.out h2 h2
 have r2:=R2.cellAt (i:=0) (v:=0) rfl
 have f2:=R2.free 0
 have R3:=hid (show RowN (w2.setCell ⟨q,0,none⟩ (.int .u64 ((cAt bs).toNat:Int))) q 201 (content (cAt bs) (upTo (kAt bs) 0) (upTo (vAt bs) 0)) from R2.set 0 (cAt bs))
 have P3:=hid (P2.other 0 (.int .u64 ((cAt bs).toNat:Int)) h1 h2 h3)
 have A3:=hid ((A2.wide (p:=q)).set 0 (.int .u64 ((cAt bs).toNat:Int)))
 clear P2 A2 R2 r0 HP HR
 go_wp2_with fail
 generalize w2.setCell ⟨q,0,none⟩ (.int .u64 ((cAt bs).toNat:Int))=w3 at *
 clear r2 f2
 go_loopw [14] (fun i wr => ∃k:Nat,k≤7∧i = .int .i64 (k:Int)∧Hid (RowN wr q 201 (content (cAt bs) (upTo (kAt bs) k) (upTo (vAt bs) k)))∧Hid (Book wr bb ab g (1+16*k) bs)∧Hid (Apart w wr q ab)) (fun i _=>7-(intOf i).toNat)
 case atStart=>exact ⟨0,by omega,rfl,R3,P3,A3⟩
 case round =>
  obtain ⟨k,hk7,rfl,HR,HP,HB⟩:=hrel
  clear R3 P3 A3
  by_cases hlt:k<7
  ·have lk:=length_upTo (kAt bs) k
   have lv:=length_upTo (vAt bs) k
   have e1:=content_key (cAt bs) (upTo (kAt bs) k) (upTo (vAt bs) k) lk k hlt
   have s1:=hid ((content_setk (cAt bs) (upTo (kAt bs) k) (upTo (vAt bs) k) lk k hlt (kAt bs k)).trans (by rw [upTo_set _ _ hlt]))
   have lk':=length_upTo (kAt bs) (k+1)
   have e2:=content_val (cAt bs) (upTo (kAt bs) (k+1)) (upTo (vAt bs) k) lk' lv k hlt
   have s2:=hid ((content_setv (cAt bs) (upTo (kAt bs) (k+1)) (upTo (vAt bs) k) lk' k hlt (vAt bs k)).trans (by rw [upTo_set _ _ hlt]))
   generalize (upTo (kAt bs) k)[k]'(by omega)=x at e1
   generalize (upTo (vAt bs) k)[k]'(by omega)=y at e2
   have k1:=HR.out.cellAt e1
   have k1f:=HR.out.free (1+k)
   have HP2:=hid (HP.out.still (Still.drew wr))
   have HR2:=hid (HR.out.still (Still.drew wr))
   have HB2:=hid (HB.out.still (Still.drew wr))
   clear lk lv lk'
   go_wp2_with fail
   go_region_with (go_at_call 175; refine (dec_k HP2.out hlt _).mono ?_; rintro e w4 ⟨rfl,P3,A3⟩; have R3:=A3.rowN HR2.out h2 h2; have r3:=R3.cellAt e1; have f3:=R3.free (1+k); have HR3:=hid (R3.set (1+k) (kAt bs k)); have HP3:=hid (P3.other (1+k) (.int .u64 ((kAt bs k).toNat:Int)) h1 h2 h3); have HB3:=hid ((HB2.out.trans A3.wide).set (1+k) (.int .u64 ((kAt bs k).toNat:Int))); clear P3 A3 R3)
   rw [s1.out] at HR3
   generalize w4.setCell ⟨q,1+k,none⟩ (.int .u64 ((kAt bs k).toNat:Int))=w5 at *
   have k2:=HR3.out.cellAt e2
   have k2f:=HR3.out.free (8+k)
   have HP4:=hid (HP3.out.still (Still.drew w5))
   have HR4:=hid (HR3.out.still (Still.drew w5))
   have HB4:=hid (HB3.out.still (Still.drew w5))
   clear HP2 HR2 HB2 HP HR HB k1 k1f r3 f3 e1 HP3 HR3 HB3
   go_wp2_with fail
   go_region_with (go_at_call 175; refine (dec_v HP4.out hlt _).mono ?_; rintro e w6 ⟨rfl,P5,A5⟩; have R5:=A5.rowN HR4.out h2 h2; have r5:=R5.cellAt e2; have f5:=R5.free (8+k); have HR5:=hid (R5.set (8+k) (vAt bs k)); have HP5:=hid (P5.other (8+k) (.int .u64 ((vAt bs k).toNat:Int)) h1 h2 h3); have HB5:=hid ((HB4.out.trans A5.wide).set (8+k) (.int .u64 ((vAt bs k).toNat:Int))); clear P5 A5 R5)
   rw [s2.out] at HR5
   generalize w6.setCell ⟨q,8+k,none⟩ (.int .u64 ((vAt bs k).toNat:Int))=w7 at *
   clear k2 k2f HP4 HR4 HB4 e2 r5 f5
   go_wp2_with fail
   go_roundw
   case rel=>exact ⟨k+1,by omega,by go_num,HR5,HP5,HB5⟩
   case measure=>simp [intOf]; omega
  ·obtain rfl:k=7:=by omega
   go_wp2_with fail
   go_end0
   exact ⟨rfl,HR.out,HB.out⟩
theorem list_any (x0 x1 x2 x3 x4 x5 x6:UInt64) (n:Nat) (hn:n≤7) (w:World) :
  Calls Tryz.prog 177 #[.agg #[.int .u64 (x0.toNat:Int),.int .u64 (x1.toNat:Int),.int .u64 (x2.toNat:Int),.int .u64 (x3.toNat:Int),.int .u64 (x4.toNat:Int),.int .u64 (x5.toNat:Int),.int .u64 (x6.toNat:Int)],.int .u64 (n:Int)] w fun e w' => ∃g,e = .returned (.slice (some ⟨g,0,none⟩) n n)∧FreshN w w' g ([x0,x1,x2,x3,x4,x5,x6].take n):=by
 have hmk:=run_make_nums (w.alloc (.cells #[.int .u64 (x0.toNat:Int),.int .u64 (x1.toNat:Int),.int .u64 (x2.toNat:Int),.int .u64 (x3.toNat:Int),.int .u64 (x4.toNat:Int),.int .u64 (x5.toNat:Int),.int .u64 (x6.toNat:Int)] 199)) .u64 n (by omega)
 have R0:RowN (w.alloc (.cells #[.int .u64 (x0.toNat:Int),.int .u64 (x1.toNat:Int),.int .u64 (x2.toNat:Int),.int .u64 (x3.toNat:Int),.int .u64 (x4.toNat:Int),.int .u64 (x5.toNat:Int),.int .u64 (x6.toNat:Int)] 199)) w.heap.size 199 [x0,x1,x2,x3,x4,x5,x6]:=alloc_rowN w 199 [x0,x1,x2,x3,x4,x5,x6]
 have B0:=(Below.refl w.heap.size w).alloc (Nat.le_refl _) (.cells #[.int .u64 (x0.toNat:Int),.int .u64 (x1.toNat:Int),.int .u64 (x2.toNat:Int),.int .u64 (x3.toNat:Int),.int .u64 (x4.toNat:Int),.int .u64 (x5.toNat:Int),.int .u64 (x6.toNat:Int)] 199)
 have R1:=alloc_rowN (w.alloc (.cells #[.int .u64 (x0.toNat:Int),.int .u64 (x1.toNat:Int),.int .u64 (x2.toNat:Int),.int .u64 (x3.toNat:Int),.int .u64 (x4.toNat:Int),.int .u64 (x5.toNat:Int),.int .u64 (x6.toNat:Int)] 199)) 30 (List.replicate n 0)
 have B1:=(Below.refl (w.alloc (.cells #[.int .u64 (x0.toNat:Int),.int .u64 (x1.toNat:Int),.int .u64 (x2.toNat:Int),.int .u64 (x3.toNat:Int),.int .u64 (x4.toNat:Int),.int .u64 (x5.toNat:Int),.int .u64 (x6.toNat:Int)] 199)).heap.size _).alloc (Nat.le_refl _) (.cells (nvals (List.replicate n 0)).toArray 30)
 have R2:=R0.below R0.lt B1
 have B2:=B0.trans (B1.mono B0.size)
 obtain ⟨g,hg⟩ : ∃g,g=(w.alloc (.cells #[.int .u64 (x0.toNat:Int),.int .u64 (x1.toNat:Int),.int .u64 (x2.toNat:Int),.int .u64 (x3.toNat:Int),.int .u64 (x4.toNat:Int),.int .u64 (x5.toNat:Int),.int .u64 (x6.toNat:Int)] 199)).heap.size:=⟨_,rfl⟩
 rw [← hg] at hmk R1
 have HG:=hid (show w.heap.size≤g by rw [hg]; exact B0.size)
 clear B1 B0 R0
 generalize (w.alloc (.cells #[.int .u64 (x0.toNat:Int),.int .u64 (x1.toNat:Int),.int .u64 (x2.toNat:Int),.int .u64 (x3.toNat:Int),.int .u64 (x4.toNat:Int),.int .u64 (x5.toNat:Int),.int .u64 (x6.toNat:Int)] 199)).alloc (.cells (nvals (List.replicate n 0)).toArray 30)=w2 at hmk R1 R2 B2
 have T2:ToldN w2 (some ⟨w.heap.size,0,none⟩) ([x0,x1,x2,x3,x4,x5,x6].take n):=(R2.has.pre n).told
 obtain ⟨w3,hcopy,R3,B3,_,hsz⟩:=run_copy_nums w2 3 30 g 0 n n _ ([x0,x1,x2,x3,x4,x5,x6].take n) R1 _ n 7 (by simp; omega) T2 (Nat.le_refl _) (by simp)
 have HR:=hid (show RowN w3 g 30 ([x0,x1,x2,x3,x4,x5,x6].take n) by
  have:splice (List.replicate n 0) 0 ([x0,x1,x2,x3,x4,x5,x6].take n) = [x0,x1,x2,x3,x4,x5,x6].take n:=splice_all _ _ (by simp; omega)
  rwa [this] at R3)
 have HB:=hid (B2.trans (B3.mono HG.out))
 have hsl : ∀w':World,(Instr.sliceAt 199 (.pointer (some ⟨w.heap.size,0,none⟩)) none (some (.int .u64 (n:Int))) none).run Tryz.prog w' = .ok (.slice (some ⟨w.heap.size,0,none⟩) n 7) w':=fun w'=>by
  have e1:Tryz.prog.arrayLen 199 = 7:=by kernel_rfl
  have e2:Tryz.prog.underlying 199 = some (.array (Tryz.prog.arrayLen 199) (Tryz.prog.elem 199)):=by kernel_rfl
  have e3:(Go.sizeOf (Tryz.prog.elem 199)).run Tryz.prog w' = .ok 1 w':=by kernel_rfl
  rw [run_sliceAt_array_h w' 199 _ e2 .u64 (n:Int) (by omega) (by rw [e1]; omega),e3,e1]
  simp [Result.andThen,slicedAt,Addr.add]
 clear R1 R2 B2 T2 R3 B3 hsz hg
 go_enter Tryz.func177,Tryz.ntmps177
 go_wp2_with fail
 go_ret
 exact ⟨g,rfl,HB.out,HG.out,HR.out.lt,HR.out⟩
end Go.Proofs.YtogchamogbendaaGreat.Lf
namespace Go.Proofs.YtogchamogbendaaGreat.Lf
open Lib (hid)
open Go.RowKit Oct
def nodeBody (ks vs:List UInt64):List UInt8:=bytesOf ks.length 1++pairs ks vs
def nodePage (l:Bool) (ks vs:List UInt64):List UInt8:=page (kindN l) (nodeBody ks vs)
theorem fit_lens {l:Bool} {ks vs:List UInt64} (h:Fit l ks vs):ks.length≤7∧vs.length=ks.length:=⟨h.1,h.2.1⟩
theorem step_copy_nums {ops:Array Oper} {o:Oper} {a:Act} {w:World} {K:Act→World→Prop} {Q:Exit→Act→World→Prop} {E:Prop} (hgd:o.guard=none) (s x:Operand)
  (ho:o.op = .call { callee := .builtin .copy,args := #[s,x],argTypes := #[84,84] }) (T:TypeId) (g off dLen dCap:Nat) (cur ns:List UInt64) (hs:a.eval s = .slice (some ⟨g,off,none⟩) dLen dCap) (R:RowN w g T cur)
  (ad:Option Addr) (len cap:Nat) (hx:a.eval x = .slice ad len cap) (hlen:ns.length=len) (hT:ToldN w ad ns) (hd:len≤dLen) (hfit:off+len≤cur.length)
  (h : ∀w',RowN w' g T (splice cur off ns)→Below g w w'→(∀k,k≠g→w'.heap[k]?=w.heap[k]?)→w'.heap.size=w.heap.size→K (a.put o.dst (goInt len)) w'):if Region.wanted o (yielded ops a.tmps)=true then Oper.wp Tryz.prog o a w K Q else E:=by
 have hw:Region.wanted o (yielded ops a.tmps)=true:=by simp [Region.wanted,hgd]
 rw [if_pos hw]
 obtain ⟨w',hrun,h2,h3,h4,h5⟩:=run_copy_nums w o.type T g off dLen dCap cur ns R ad len cap hlen hT hd hfit
 unfold Oper.wp
 simp [execOp,ho,resolve,invoke,builtin,hs,hx,hrun,Result.andThen]
 exact h _ h2 h3 h4 h5
def pad7 (ns:List UInt64):List UInt64:=ns++List.replicate (7-ns.length) 0
theorem length_pad7 (ns:List UInt64) (h:ns.length≤7):(pad7 ns).length=7:=by simp [pad7]; omega
theorem splice_keys (c:UInt64) (ks zs:List UInt64) (h:ks.length≤7):splice (content c (List.replicate 7 0) zs) 1 ks=content c (pad7 ks) zs:=by
 unfold splice content pad7
 rw [show 1+ks.length=ks.length+1 by omega,List.drop_succ_cons,List.take_succ_cons,List.take_zero,List.drop_append_of_le_length (by simp; omega),List.drop_replicate]
 simp
theorem splice_vals (c:UInt64) (ks vs:List UInt64) (hk:ks.length=7) (h:vs.length≤7):splice (content c ks (List.replicate 7 0)) 8 vs=content c ks (pad7 vs):=by
 unfold splice content pad7
 rw [show 8+vs.length=(7+vs.length)+1 by omega,List.drop_succ_cons,List.take_succ_cons,List.drop_append,List.drop_of_length_le (by omega),List.nil_append,hk,List.take_append_of_le_length (by omega),List.take_of_length_le (by omega),show 7+vs.length-7=vs.length by omega,List.drop_replicate]
 simp
theorem pairs_pad (ks vs:List UInt64) (h:ks.length=vs.length) (r:Nat):pairs (ks++List.replicate r 0) (vs++List.replicate r 0)=pairs ks vs++List.replicate (16*r) 0:=by
 induction r with
 | zero=>simp
 | succ r ih =>
  rw [List.replicate_succ',← List.append_assoc,← List.append_assoc,pairs_snoc _ _ (by simp [h]),ih,show bytesOf (0:UInt64).toNat 8=List.replicate 8 0 by decide,List.append_assoc,List.append_assoc,List.replicate_append_replicate,List.replicate_append_replicate,show 16*r+(8+8)=16*(r+1) by omega]
theorem length_nodeBody (ks vs:List UInt64) (h:vs.length=ks.length):(nodeBody ks vs).length=1+16*ks.length:=by
 unfold nodeBody
 rw [List.length_append,length_bytesOf,length_pairs _ _ h.symm]
def fullBody (ks vs:List UInt64):List UInt8:=nodeBody ks vs++List.replicate (123-(nodeBody ks vs).length) 0
theorem length_fullBody (ks vs:List UInt64) (h:vs.length=ks.length) (h7:ks.length≤7):(fullBody ks vs).length=123:=by
 have:=length_nodeBody ks vs h
 simp [fullBody]
 omega
theorem body_all (c:UInt64) (ks vs:List UInt64) (hc:c.toNat=ks.length) (h:vs.length=ks.length) (h7:ks.length≤7) :
  bytesOf c.toNat 1++pairs (pad7 ks) (pad7 vs)++List.replicate (123-(bytesOf c.toNat 1++pairs (pad7 ks) (pad7 vs)).length) 0=fullBody ks vs:=by
 unfold pad7 fullBody
 rw [h,pairs_pad _ _ h.symm,← List.append_assoc,hc]
 unfold nodeBody
 rw [List.append_assoc (bytesOf ks.length 1++pairs ks vs),List.replicate_append_replicate]
 congr 2
 have:=length_pairs ks vs h.symm
 simp only [List.length_append,length_bytesOf,List.length_replicate]
 omega
theorem page_pad (k:UInt8) (bs:List UInt8) (h:bs.length≤123):page k (bs++List.replicate (123-bs.length) 0)=page k bs:=by
 have e:face k (bs++List.replicate (123-bs.length) 0)=face k bs:=by
  unfold face
  rw [List.length_append,List.length_replicate,show 123-(bs.length+(123-bs.length))=0 by omega,List.replicate_zero,List.append_nil]
 unfold page
 rw [e]
theorem pen_start (w:World) (g:Nat) (R:Row w g (List.replicate 123 0)) :
  Pen ((w.alloc (.cells #[.slice (some ⟨g,0,none⟩) 123 123] 45)).alloc (.cells #[.int .i64 0] 3)) w.heap.size (w.heap.size+1) g []:=by
 have b1:=(Below.refl w.heap.size w).alloc (Nat.le_refl _) (.cells #[.slice (some ⟨g,0,none⟩) 123 123] 45)
 have c1:=box_cell w #[.slice (some ⟨g,0,none⟩) 123 123] 45 0 _ rfl
 have hs:(w.alloc (.cells #[.slice (some ⟨g,0,none⟩) 123 123] 45)).heap.size=w.heap.size+1:=by simp
 generalize w.alloc (.cells #[.slice (some ⟨g,0,none⟩) 123 123] 45)=w1 at *
 have b2:=(Below.refl w1.heap.size w1).alloc (Nat.le_refl _) (.cells #[.int .i64 0] 3)
 have c2:=box_cell w1 #[.int .i64 0] 3 0 _ rfl
 have f2:(w1.alloc (.cells #[.int .i64 0] 3)).frozen? ⟨w1.heap.size,0,none⟩=false:=by
  have:=heap_alloc_new w1 (.cells #[.int .i64 0] 3)
  generalize w1.alloc (.cells #[.int .i64 0] 3)=w2 at *
  simp [World.frozen?,this]
 generalize w1.alloc (.cells #[.int .i64 0] 3)=w2 at *
 rw [hs] at c2 f2 b2
 have hR:Row w2 g (List.replicate 123 0):=by
  unfold Row at *
  rw [b2.block g (by have:=Row.lt R; omega),b1.block g (Row.lt R),R]
 have hlt:=Row.lt R
 exact ⟨(b2.cell (by simp)).trans c1,c2,f2,by simpa using hR.has,hR.free 0 123,by simp,by omega,by omega,by omega⟩
theorem has_lt {w:World} {b o:Nat} {bs:List UInt8} (h:Has w b o bs) (h0:0<bs.length):b<w.heap.size:=World.block_lt_of_cell? w _ (h 0 h0)
theorem fresh_back {w wk w':World} {g cap:Nat} {bs:List UInt8} (B:Below w.heap.size w wk) (F:Fresh wk w' g bs cap):Fresh w w' g bs cap :=
 ⟨B.trans (F.below.mono B.size),Nat.le_trans B.size F.lo,F.hi,F.has,F.free,F.len,F.cap,F.typ⟩
theorem num_of (m:Nat) (h:m≤7) : ∃c:UInt64,c.toNat=m:=⟨UInt64.ofNat m,by simp; omega⟩
theorem content_row (w:World) (c:UInt64) (m:Nat) (h:c.toNat=m) :
  RowN (w.alloc (.cells #[.int .u64 (m:Int),.int .u64 0,.int .u64 0,.int .u64 0,.int .u64 0,.int .u64 0,.int .u64 0,.int .u64 0,.int .u64 0,.int .u64 0,.int .u64 0,.int .u64 0,.int .u64 0,.int .u64 0,.int .u64 0] 201)) w.heap.size 201 (content c (List.replicate 7 0) (List.replicate 7 0)):=by
 subst h
 exact alloc_rowN w 201 (content c (List.replicate 7 0) (List.replicate 7 0))
set_option maxHeartbeats 1000000 in
theorem encode_no (l:Bool) {w:World} {A B:Option Addr} {n c m d:Nat} {ks vs:List UInt64} (h:Nd w A n c B m d ks vs) (hn:n≤1000) (hm:m≤1000) (hf : ¬Fit l ks vs) :
  Calls Tryz.prog 62 #[.agg #[.bool l,.slice A n c,.slice B m d]] w fun e w'=>e = .returned (.tuple #[.slice none 0 0,.int .i64 30])∧Below w.heap.size w w':=by
 have HD:=hid (h.boxed (.cells #[.bool l,.slice A n c,.slice B m d] 107))
 have BB:=hid ((Below.refl w.heap.size w).alloc (Nat.le_refl _) (.cells #[.bool l,.slice A n c,.slice B m d] 107))
 have HF:=hid hf
 clear h hf
 go_enter Tryz.func62,Tryz.ntmps62
 go_wp2_with fail
 refine (right_any l HD.out hn hm).mono ?_
 rintro e w2 ⟨rfl,B2⟩
 rw [decide_eq_false HF.out]
 have BB2:=hid (BB.out.trans (B2.mono BB.out.size))
 clear B2
 go_wp2_with fail
 go_ret2
 exact ⟨rfl,BB2.out⟩
set_option maxHeartbeats 1000000 in
theorem encode_yes (l:Bool) {w:World} {A B:Option Addr} {n c m d:Nat} {ks vs:List UInt64} (h:Nd w A n c B m d ks vs) (hf:Fit l ks vs) :
  Calls Tryz.prog 62 #[.agg #[.bool l,.slice A n c,.slice B m d]] w (SealPost w (kindN l) (nodeBody ks vs)):=by
 have HD:=hid (h.boxed (.cells #[.bool l,.slice A n c,.slice B m d] 107))
 have BB:=hid ((Below.refl w.heap.size w).alloc (Nat.le_refl _) (.cells #[.bool l,.slice A n c,.slice B m d] 107))
 have hn:n≤7:=by have:=(fit_lens hf).1; rw [h.kl] at this; exact this
 have hmn:m=n:=by have:=(fit_lens hf).2; rw [h.kl,h.vl] at this; exact this
 subst hmn
 have HF:=hid hf
 clear h hf
 go_enter Tryz.func62,Tryz.ntmps62
 go_wp2_with fail
 refine (right_any l HD.out (by omega) (by omega)).mono ?_
 rintro e w2 ⟨rfl,B2⟩
 rw [decide_eq_true HF.out]
 have e0:w2.cell? ⟨w.heap.size,0,none⟩=some (.bool l):=(B2.cell (by simp)).trans (box_cell w _ _ 0 _ rfl)
 have e1:w2.cell? ⟨w.heap.size,1,none⟩=some (.slice A m c):=(B2.cell (by simp)).trans (box_cell w _ _ 1 _ rfl)
 have e2:w2.cell? ⟨w.heap.size,2,none⟩=some (.slice B m d):=(B2.cell (by simp)).trans (box_cell w _ _ 2 _ rfl)
 have HD2:=hid (HD.out.below B2)
 have BB2:=hid (BB.out.trans (B2.mono BB.out.size))
 have hlt:w.heap.size<w2.heap.size:=Nat.lt_of_lt_of_le (by simp) B2.size
 clear B2
 go_wp2_with fail
 obtain ⟨cn,hcn⟩:=num_of m hn
 have R3:=content_row w2 cn m hcn
 have A3:=(Below.refl w2.heap.size w2).alloc (Nat.le_refl _) (.cells #[.int .u64 (m:Int),.int .u64 0,.int .u64 0,.int .u64 0,.int .u64 0,.int .u64 0,.int .u64 0,.int .u64 0,.int .u64 0,.int .u64 0,.int .u64 0,.int .u64 0,.int .u64 0,.int .u64 0,.int .u64 0] 201)
 obtain ⟨q,hq⟩ : ∃q,q=w2.heap.size:=⟨_,rfl⟩
 generalize w2.alloc (.cells #[.int .u64 (m:Int),.int .u64 0,.int .u64 0,.int .u64 0,.int .u64 0,.int .u64 0,.int .u64 0,.int .u64 0,.int .u64 0,.int .u64 0,.int .u64 0,.int .u64 0,.int .u64 0,.int .u64 0,.int .u64 0] 201)=w3 at *
 have HD3:=hid ((HD2.out.below A3).still (Still.drew w3))
 have c0:=(A3.cell (p:=⟨w.heap.size,0,none⟩) hlt).trans e0
 have c1:=(A3.cell (p:=⟨w.heap.size,1,none⟩) hlt).trans e1
 have c2:=(A3.cell (p:=⟨w.heap.size,2,none⟩) hlt).trans e2
 rw [← hq] at R3 A3 hlt
 have hne:w.heap.size≠q:=by omega
 have HB3:=hid (BB2.out.trans (A3.mono (by have:=BB2.out.size; omega)))
 have HR3:=hid (R3.still (Still.drew w3))
 have HQ:=hid hq
 have f1:=hid (show 1+m≤(content cn (List.replicate 7 0) (List.replicate 7 0)).length by simp [content]; omega)
 rw [← hq]
 have HA3:=hid A3
 clear R3 A3 e0 e1 e2 HD BB hq
 go_region_law (refine step_copy_nums rfl (.tmp 16) (.tmp 18) rfl 201 q 1 7 7 _ ks rfl HR3.out A m c rfl HD3.out.kl HD3.out.ks hn f1.out ?_; intro w4 R4 B4 K4 S4; have d0:=(World.cell?_of_block (a:=⟨w.heap.size,0,none⟩) (K4 _ hne)).trans c0)
 have d1:=(World.cell?_of_block (a:=⟨w.heap.size,1,none⟩) (K4 _ hne)).trans c1
 have d2:=(World.cell?_of_block (a:=⟨w.heap.size,2,none⟩) (K4 _ hne)).trans c2
 rw [splice_keys cn ks _ (by rw [HD2.out.kl]; exact hn)] at R4
 have B24:Below q w2 w4:=(HA3.out.trans ((Still.drew w3).below q)).trans B4
 have HD4:=hid ((HD2.out.below (by rw [← HQ.out]; exact B24)).still (Still.drew w4))
 have HR4:=hid (R4.still (Still.drew w4))
 have HB4:=hid (BB2.out.trans (B24.mono (by have:=BB2.out.size; have:=HQ.out; omega)))
 have f2:=hid (show 8+m≤(content cn (pad7 ks) (List.replicate 7 0)).length by simp [content,length_pad7 ks (by rw [HD2.out.kl]; exact hn)]; omega)
 clear R4 B4 K4 S4 HR3 HD3 HB3 f1 c0 c1 c2 B24
 go_wp2_with fail
 go_region_law (refine step_copy_nums rfl (.tmp 21) (.tmp 23) rfl 201 q 8 7 7 _ vs rfl HR4.out B m d rfl HD4.out.vl HD4.out.vs hn f2.out ?_; intro w5 R5 B5 K5 S5; have x0:=(World.cell?_of_block (a:=⟨w.heap.size,0,none⟩) (K5 _ hne)).trans d0)
 have x1:=(World.cell?_of_block (a:=⟨w.heap.size,1,none⟩) (K5 _ hne)).trans d1
 have x2:=(World.cell?_of_block (a:=⟨w.heap.size,2,none⟩) (K5 _ hne)).trans d2
 rw [splice_vals cn (pad7 ks) vs (length_pad7 ks (by rw [HD2.out.kl]; exact hn)) (by rw [HD2.out.vl]; exact hn)] at R5
 have HB5:=hid (HB4.out.trans (((Still.drew w4).below _).trans (B5.mono (by omega))))
 have HR5:=hid R5
 have hmk:(Instr.makeSlice 45 (.int .i64 123) (.int .i64 123)).run Tryz.prog w5 = .ok (.slice (some ⟨w5.heap.size,0,none⟩) 123 123) (w5.alloc (.cells (vals (List.replicate 123 0)).toArray 5)):=run_make_bytes w5 123 (by omega)
 have RB:=alloc_row w5 (List.replicate 123 0)
 have A6:=(Below.refl w5.heap.size w5).alloc (Nat.le_refl _) (.cells (vals (List.replicate 123 0)).toArray 5)
 have hs6:(w5.alloc (.cells (vals (List.replicate 123 0)).toArray 5)).heap.size=w5.heap.size+1:=by simp
 generalize w5.alloc (.cells (vals (List.replicate 123 0)).toArray 5)=w6 at *
 obtain ⟨g,hg⟩ : ∃g,g=w5.heap.size:=⟨_,rfl⟩
 rw [← hg] at hmk RB A6 hs6
 have hqg:q<g:=by rw [hg]; exact HR5.out.lt
 have hwq:w.heap.size+1≤q:=by have:=HQ.out; omega
 have PS:=hid (pen_start w6 g RB)
 have a7:=(Below.refl w6.heap.size w6).alloc (Nat.le_refl _) (.cells #[.slice (some ⟨g,0,none⟩) 123 123] 45)
 have a8:=a7.alloc a7.size (.cells #[.int .i64 0] 3)
 have A8:=hid ((A6.mono (Nat.le_refl g)).trans (a8.mono (by omega)))
 have HR6:=hid (HR5.out.below hqg A8.out)
 have HG:=hid hg
 have HS6:=hid hs6
 clear R5 B5 K5 S5 HR4 HD4 HB4 f2 d0 d1 d2 hg hs6 a7 a8
 go_wp2_with fail
 have hs6:=HS6.out
 have y0:=(A8.out.cell (p:=⟨w.heap.size,0,none⟩) (show w.heap.size<g by omega)).trans x0
 have y1:=(A8.out.cell (p:=⟨w.heap.size,1,none⟩) (show w.heap.size<g by omega)).trans x1
 have y2:=(A8.out.cell (p:=⟨w.heap.size,2,none⟩) (show w.heap.size<g by omega)).trans x2
 have HB8:=hid (HB5.out.trans (A8.out.mono (by have:=HG.out; omega)))
 generalize (w6.alloc (.cells #[.slice (some ⟨g,0,none⟩) 123 123] 45)).alloc (.cells #[.int .i64 0] 3)=w8 at *
 have hgb:g+1=w6.heap.size:=by have:=HG.out; omega
 refine (each_enc (B:=w.heap.size+1) PS.out HR6.out (length_pad7 ks (by rw [HD2.out.kl]; exact hn)) (length_pad7 vs (by rw [HD2.out.vl]; exact hn)) (by rw [hcn]; omega) (by omega) (by omega) (by omega) hwq (by omega) (by omega)).mono ?_
 rintro e w9 ⟨rfl,P9,B9⟩
 dsimp only
 have z0:=(B9.cell (p:=⟨w.heap.size,0,none⟩) (by simp)).trans y0
 have z1:=(B9.cell (p:=⟨w.heap.size,1,none⟩) (by simp)).trans y1
 have z2:=(B9.cell (p:=⟨w.heap.size,2,none⟩) (by simp)).trans y2
 have v5:=P9.cb
 have h9:=P9.has
 rw [body_all cn ks vs (by rw [hcn]; exact HD2.out.kl.symm) (by rw [HD2.out.vl,HD2.out.kl]) (by rw [HD2.out.kl]; exact hn)] at h9
 have HB9:=hid (HB8.out.trans (B9.mono (by omega)))
 have HL:=hid (length_fullBody ks vs (by rw [HD2.out.vl,HD2.out.kl]) (by rw [HD2.out.kl]; exact hn))
 have HLT:=hid (And.intro (has_lt h9 (by rw [HL.out]; decide)) (World.block_lt_of_cell? w9 _ v5))
 have H9:=hid (h9.still (Still.drew w9))
 have V9:=hid (((Still.drew w9).cell ⟨w6.heap.size,0,none⟩).trans v5)
 clear P9 B9 h9 y0 y1 y2 HB8 PS HR6 x0 x1 x2 A8 A6
 go_wp2_with fail
 clear hs6 hgb hcn hmk RB
 have b9:=(HB9.out.trans ((Still.drew w9).below _)).size
 go_region_with (first | (go_at_call 126; refine (kind_any l _ _ _).mono ?_; rintro e w10 ⟨rfl,B10⟩; have v10:=(B10.cell (p:=⟨w6.heap.size,0,none⟩) HLT.out.2).trans V9.out; have T10:=hid ((H9.out.below HLT.out.1 B10).told); have HB10:=hid ((HB9.out.trans ((Still.drew w9).below _)).trans (B10.mono b9)); clear B10) | (go_at_call 125; refine (seal_any (kindN l) _ 123 123 (fullBody ks vs) HL.out _ (by decide) T10.out).mono ?_; rintro e w11 ⟨g',rfl,F11⟩; have HF11:=hid F11; clear F11))
 all_goals
  have HFIN:=hid (fresh_back HB10.out HF11.out)
  have HPG:=hid (show page (kindN l) (fullBody ks vs)=page (kindN l) (nodeBody ks vs) from page_pad _ _ (by have:=length_nodeBody ks vs (by rw [HD2.out.vl,HD2.out.kl]); have:=HD2.out.kl; omega))
  go_wp2_with fail
  go_ret2
  exact ⟨g',rfl,by rw [← HPG.out]; exact HFIN.out⟩
end Go.Proofs.YtogchamogbendaaGreat.Lf
namespace Go.Proofs.YtogchamogbendaaGreat.Lf
open Lib (hid)
open Go.RowKit Oct
def bodyIn (ps:List UInt8):List UInt8:=(ps.drop 1).take 123
def headIn (ps:List UInt8):UInt8:=ps.getD 0 0
def leafIn (ps:List UInt8):Bool:=headIn ps==1
def keysIn (ps:List UInt8):List UInt64:=(upTo (kAt (bodyIn ps)) 7).take (cAt (bodyIn ps)).toNat
def valsIn (ps:List UInt8):List UInt64:=(upTo (vAt (bodyIn ps)) 7).take (cAt (bodyIn ps)).toNat
def Holds (ps:List UInt8):Prop:=ps.length=128∧Oct.Good ps∧(cAt (bodyIn ps)).toNat≤7∧Fit (leafIn ps) (keysIn ps) (valsIn ps)∧nodePage (leafIn ps) (keysIn ps) (valsIn ps)=ps
structure DecYes (w:World) (ps:List UInt8) (e:Ending) (w':World) (g g':Nat):Prop where
 e:e = .returned (.tuple #[.agg #[.bool (leafIn ps),.slice (some ⟨g,0,none⟩) (keysIn ps).length (keysIn ps).length,.slice (some ⟨g',0,none⟩) (keysIn ps).length (keysIn ps).length],.int .i64 0])
 ks:RowN w' g 30 (keysIn ps)
 vs:RowN w' g' 30 (valsIn ps)
 lo:w.heap.size≤g
 lo':w.heap.size≤g'
 ne:g≠g'
 below:Below w.heap.size w w'
def DecNo (w:World) (e:Ending) (w':World):Prop:=e = .returned (.tuple #[.agg #[.bool false,.slice none 0 0,.slice none 0 0],.int .i64 30])∧Below w.heap.size w w'
theorem book_start (w:World) (g:Nat) (bs:List UInt8) (f f':Nat→UInt64) (H:Has w g 0 bs) (hl:bs.length=123) :
  Book (((w.alloc (.cells #[.slice (some ⟨g,0,none⟩) 123 123] 45)).alloc (.cells #[.int .u64 0,.int .u64 0,.int .u64 0,.int .u64 0,.int .u64 0,.int .u64 0,.int .u64 0,.int .u64 0,.int .u64 0,.int .u64 0,.int .u64 0,.int .u64 0,.int .u64 0,.int .u64 0,.int .u64 0] 201)).alloc (.cells #[.int .i64 0] 3)) w.heap.size (w.heap.size+1+1) g 0 bs ∧
  RowN (((w.alloc (.cells #[.slice (some ⟨g,0,none⟩) 123 123] 45)).alloc (.cells #[.int .u64 0,.int .u64 0,.int .u64 0,.int .u64 0,.int .u64 0,.int .u64 0,.int .u64 0,.int .u64 0,.int .u64 0,.int .u64 0,.int .u64 0,.int .u64 0,.int .u64 0,.int .u64 0,.int .u64 0] 201)).alloc (.cells #[.int .i64 0] 3)) (w.heap.size+1) 201 (content 0 (upTo f 0) (upTo f' 0)):=by
 have hlt:g<w.heap.size:=has_lt H (by omega)
 have b1:=(Below.refl w.heap.size w).alloc (Nat.le_refl _) (.cells #[.slice (some ⟨g,0,none⟩) 123 123] 45)
 have c1:=box_cell w #[.slice (some ⟨g,0,none⟩) 123 123] 45 0 _ rfl
 have hs:(w.alloc (.cells #[.slice (some ⟨g,0,none⟩) 123 123] 45)).heap.size=w.heap.size+1:=by simp
 generalize w.alloc (.cells #[.slice (some ⟨g,0,none⟩) 123 123] 45)=w1 at *
 have R2:=content_row w1 0 0 rfl
 have b2:=(Below.refl w1.heap.size w1).alloc (Nat.le_refl _) (.cells #[.int .u64 0,.int .u64 0,.int .u64 0,.int .u64 0,.int .u64 0,.int .u64 0,.int .u64 0,.int .u64 0,.int .u64 0,.int .u64 0,.int .u64 0,.int .u64 0,.int .u64 0,.int .u64 0,.int .u64 0] 201)
 have hs2:(w1.alloc (.cells #[.int .u64 0,.int .u64 0,.int .u64 0,.int .u64 0,.int .u64 0,.int .u64 0,.int .u64 0,.int .u64 0,.int .u64 0,.int .u64 0,.int .u64 0,.int .u64 0,.int .u64 0,.int .u64 0,.int .u64 0] 201)).heap.size=w1.heap.size+1:=by simp
 change RowN (w1.alloc (.cells #[.int .u64 0,.int .u64 0,.int .u64 0,.int .u64 0,.int .u64 0,.int .u64 0,.int .u64 0,.int .u64 0,.int .u64 0,.int .u64 0,.int .u64 0,.int .u64 0,.int .u64 0,.int .u64 0,.int .u64 0] 201)) _ _ _ at R2
 generalize w1.alloc (.cells #[.int .u64 0,.int .u64 0,.int .u64 0,.int .u64 0,.int .u64 0,.int .u64 0,.int .u64 0,.int .u64 0,.int .u64 0,.int .u64 0,.int .u64 0,.int .u64 0,.int .u64 0,.int .u64 0,.int .u64 0] 201)=w2 at *
 have b3:=(Below.refl w2.heap.size w2).alloc (Nat.le_refl _) (.cells #[.int .i64 0] 3)
 have c3:=box_cell w2 #[.int .i64 0] 3 0 _ rfl
 have f3:(w2.alloc (.cells #[.int .i64 0] 3)).frozen? ⟨w2.heap.size,0,none⟩=false:=by
  have:=heap_alloc_new w2 (.cells #[.int .i64 0] 3)
  generalize w2.alloc (.cells #[.int .i64 0] 3)=w3 at *
  simp [World.frozen?,this]
 generalize w2.alloc (.cells #[.int .i64 0] 3)=w3 at *
 have R3:=R2.below R2.lt b3
 rw [hs2,hs] at c3 f3
 rw [hs] at R3 b2
 rw [hs2,hs] at b3
 refine ⟨⟨(b3.cell (show w.heap.size<w.heap.size+1+1 by omega)).trans ((b2.cell (show w.heap.size<w.heap.size+1 by omega)).trans c1),c3,f3,fun i hi=>(b3.cell (show g<w.heap.size+1+1 by omega)).trans ((b2.cell (show g<w.heap.size+1 by omega)).trans ((b1.cell hlt).trans (H i hi))),hl,by omega,by omega⟩,?_⟩
 rw [upTo_zero,upTo_zero]
 exact R3
theorem box_free (w:World) (xs:Array Value) (T:TypeId) (i:Nat):(w.alloc (.cells xs T)).frozen? ⟨w.heap.size,i,none⟩=false:=by
 have:=heap_alloc_new w (.cells xs T)
 generalize w.alloc (.cells xs T)=w' at this
 simp [World.frozen?,this]
structure Res (w':World) (r:Nat):Prop where
 c0:w'.cell? ⟨r,0,none⟩=some (.bool false)
 c1:w'.cell? ⟨r,1,none⟩=some (.slice none 0 0)
 c2:w'.cell? ⟨r,2,none⟩=some (.slice none 0 0)
 f : ∀i,w'.frozen? ⟨r,i,none⟩=false
 lt:r<w'.heap.size
theorem res_new (w:World):Res (w.alloc (.cells #[.bool false,.slice none 0 0,.slice none 0 0] 107)) w.heap.size :=
 ⟨box_cell w _ _ 0 _ rfl,box_cell w _ _ 1 _ rfl,box_cell w _ _ 2 _ rfl,fun i=>box_free w _ _ i,by simp⟩
theorem Res.still {w w':World} {r:Nat} (h:Res w r) (S:Still w w'):Res w' r :=
 ⟨(S.cell _).trans h.c0,(S.cell _).trans h.c1,(S.cell _).trans h.c2,fun i=>(S.frozen _).trans (h.f i),by rw [S.heap]; exact h.lt⟩
theorem Res.below {w w':World} {r B:Nat} (h:Res w r) (k:Below B w w') (hr:r<B):Res w' r :=
 ⟨(k.cell (p:=⟨r,0,none⟩) hr).trans h.c0,(k.cell (p:=⟨r,1,none⟩) hr).trans h.c1,(k.cell (p:=⟨r,2,none⟩) hr).trans h.c2,fun i=>(k.frozen (p:=⟨r,i,none⟩) hr).trans (h.f i),Nat.lt_of_lt_of_le h.lt k.size⟩
set_option maxHeartbeats 1000000 in
theorem decode_len (a:Option Addr) (len cap:Nat) (w:World) (h:len≠128) (hm:len≤maxLen) :
  Calls Tryz.prog 120 #[.slice a len cap] w (DecNo w):=by
 have b1:=(Below.refl w.heap.size w).alloc (Nat.le_refl _) (.cells #[.bool false,.slice none 0 0,.slice none 0 0] 107)
 have BB:=hid (b1.alloc b1.size (.cells #[.slice none 0 0] 45))
 clear b1
 go_enter Tryz.func120,Tryz.ntmps120
 go_wp2_with fail
 refine (open_len a len cap _ h hm).mono ?_
 rintro e w2 ⟨rfl,rfl⟩
 go_wp2_with fail
 refine bodyPost_ret (v := .tuple #[.agg #[.bool false,.slice none 0 0,.slice none 0 0],.int .i64 30]) ?_ rfl ⟨rfl,BB.out⟩
 rw [results_cell_tmp rfl]
 go_simp
set_option maxHeartbeats 1000000 in
theorem decode_sum (b o cap:Nat) (ps:List UInt8) (w:World) (hb:Has w b o ps) (hlen:ps.length=128) (hc:128≤cap) (hm:cap≤maxLen) (hs : ¬Oct.Good ps) :
  Calls Tryz.prog 120 #[.slice (some ⟨b,o,none⟩) 128 cap] w (DecNo w):=by
 have b1:=(Below.refl w.heap.size w).alloc (Nat.le_refl _) (.cells #[.bool false,.slice none 0 0,.slice none 0 0] 107)
 have HB:=hid (hb.below (has_lt hb (by omega)) b1)
 have BB:=hid b1
 have RS:=hid (res_new w)
 have HL:=hid hlen
 have HS:=hid hs
 have HM:=hid hm
 clear hb hlen b1 hs hm
 go_enter Tryz.func120,Tryz.ntmps120
 go_wp2_with fail
 refine (open_bad b o cap ps _ HB.out HL.out hc HM.out HS.out).mono ?_
 rintro e w2 ⟨rfl,S2⟩
 have R2:=RS.out.below (S2.below _) RS.out.lt
 have y0:=R2.c0
 have y1:=R2.c1
 have y2:=R2.c2
 have f0:=R2.f 0
 have f1:=R2.f 1
 have f2:=R2.f 2
 have hlt:=R2.lt
 have hle:=Nat.le_of_lt hlt
 have B2:=hid (((((BB.out.trans (S2.below _)).setCell (p:=⟨w.heap.size,0,none⟩) (Nat.le_refl _) (.bool false)).setCell (p:=⟨w.heap.size,1,none⟩) (Nat.le_refl _) (.slice none 0 0)).setCell (p:=⟨w.heap.size,2,none⟩) (Nat.le_refl _) (.slice none 0 0)).alloc (by simpa using hle) (.cells #[.slice none 0 0] 45))
 clear S2 R2
 go_wp2_with fail
 refine bodyPost_ret (v := .tuple #[.agg #[.bool false,.slice none 0 0,.slice none 0 0],.int .i64 30]) ?_ rfl ⟨rfl,?_⟩
 ·rw [results_cell_tmp rfl]
  go_simp
 ·exact B2.out
structure Made (w4 W:World) (a gk gv:Nat) (l:Bool) (n:Nat) (ks vs:List UInt64):Prop where
 n0:W.cell? ⟨a,0,none⟩=some (.bool l)
 n1:W.cell? ⟨a,1,none⟩=some (.slice (some ⟨gk,0,none⟩) n n)
 n2:W.cell? ⟨a,2,none⟩=some (.slice (some ⟨gv,0,none⟩) n n)
 below:Below w4.heap.size w4 W
 rk:RowN W gk 30 ks
 rv:RowN W gv 30 vs
 ne:gk≠gv
 lk:w4.heap.size≤gk
 lv:w4.heap.size≤gv
theorem made_alloc {w4 wk wv:World} {gk gv n:Nat} {ks vs:List UInt64} (l:Bool) (FK:FreshN w4.drew wk gk ks) (FV:FreshN wk wv gv vs) (BV:Below w4.heap.size w4 wv) :
  Made w4 (wv.alloc (.cells #[.bool l,.slice (some ⟨gk,0,none⟩) n n,.slice (some ⟨gv,0,none⟩) n n] 107)) wv.heap.size gk gv l n ks vs:=by
 have b:=(Below.refl wv.heap.size wv).alloc (Nat.le_refl _) (.cells #[.bool l,.slice (some ⟨gk,0,none⟩) n n,.slice (some ⟨gv,0,none⟩) n n] 107)
 have rk:=FK.row.below FK.hi FV.below
 have l1:w4.heap.size≤gk:=FK.lo
 have l2:=FK.hi
 have l3:=FV.lo
 exact ⟨box_cell wv _ _ 0 _ rfl,box_cell wv _ _ 1 _ rfl,box_cell wv _ _ 2 _ rfl,BV.trans (b.mono BV.size),rk.below rk.lt b,FV.row.below FV.hi b,by omega,l1,by omega⟩
theorem made_set {w4 W1 W2 wk wv:World} {a gk gv n:Nat} {ks vs:List UInt64} (l:Bool) (FK:FreshN W1 wk gk ks) (FV:FreshN W2 wv gv vs) (h1:w4.heap.size≤W1.heap.size) (h2:Below wk.heap.size wk W2) (BV:Below w4.heap.size w4 wv) (Z:Res wv a) (ha:w4.heap.size≤a) (hk:a≠gk) (hv:a≠gv) :
  Made w4 (((wv.setCell ⟨a,0,none⟩ (.bool l)).setCell ⟨a,1,none⟩ (.slice (some ⟨gk,0,none⟩) n n)).setCell ⟨a,2,none⟩ (.slice (some ⟨gv,0,none⟩) n n)) a gk gv l n ks vs:=by
 have rk:=(FK.row.below FK.hi h2).below (Nat.lt_of_lt_of_le FK.hi h2.size) FV.below
 have l1:=FK.lo
 have l2:=FK.hi
 have l3:=FV.lo
 have l4:=h2.size
 refine ⟨?_,?_,?_,((BV.setCell (p:=⟨a,0,none⟩) ha _).setCell (p:=⟨a,1,none⟩) ha _).setCell (p:=⟨a,2,none⟩) ha _,((rk.other (fun e=>hk e.symm)).other (fun e=>hk e.symm)).other (fun e=>hk e.symm),((FV.row.other (fun e=>hv e.symm)).other (fun e=>hv e.symm)).other (fun e=>hv e.symm),by omega,by omega,by omega⟩
 ·rw [set_other (by omega),set_other (by omega),set_same Z.c0]
 ·rw [set_other (by omega)]
  exact set_same ((set_other (by omega)).trans Z.c1)
 ·exact set_same (((set_other (by omega)).trans (set_other (by omega))).trans Z.c2)
theorem made_nd {w4 W:World} {a gk gv n:Nat} {l:Bool} {ks vs:List UInt64} (h:Made w4 W a gk gv l n ks vs) (hk:ks.length=n) (hv:vs.length=n) (hn:n≤7):Nd W (some ⟨gk,0,none⟩) n n (some ⟨gv,0,none⟩) n n ks vs :=
 ⟨hk,hv,Nat.le_refl _,by unfold maxLen; omega,Nat.le_refl _,by unfold maxLen; omega,h.rk.has.told,h.rv.has.told⟩
theorem made_keep {w4 W w6:World} {a gk gv n:Nat} {l:Bool} {ks vs:List UInt64} (h:Made w4 W a gk gv l n ks vs) (B:Below W.heap.size W w6):Made w4 w6 a gk gv l n ks vs :=
 ⟨(B.cell (World.block_lt_of_cell? _ _ h.n0)).trans h.n0,(B.cell (World.block_lt_of_cell? _ _ h.n1)).trans h.n1,(B.cell (World.block_lt_of_cell? _ _ h.n2)).trans h.n2,h.below.trans (B.mono h.below.size),h.rk.below h.rk.lt B,h.rv.below h.rv.lt B,h.ne,h.lk,h.lv⟩
theorem bytes_equal (a c:Option Addr) (len len' cap cap':Nat) (xs ys:List UInt8) (hx':xs.length=len) (hy':ys.length=len') (w:World) (hx:Oct.Told w a xs) (hy:Oct.Told w c ys) :
  Calls Tryz.prog 178 #[.slice a len cap,.slice c len' cap'] w fun e w'=>e = .returned (.bool (xs==ys))∧w=w':=by
 subst hx' hy'
 have k1:=conv_told (P:=Tryz.prog) hx cap 45 9 5 Tryz.underlying45 Tryz.underlying5 Tryz.underlying9
 have k2:=conv_told (P:=Tryz.prog) hy cap' 45 9 5 Tryz.underlying45 Tryz.underlying5 Tryz.underlying9
 clear hx hy
 go_enter Tryz.func178,Tryz.ntmps178
 go_wp2
 go_ret
 exact ⟨rfl,rfl⟩
set_option maxHeartbeats 1000000 in
theorem decode_good (b o cap:Nat) (ps:List UInt8) (w:World) (hb:Has w b o ps) (hlen:ps.length=128) (hc:128≤cap) (hm:cap≤maxLen) (hs:Oct.Good ps) :
  Calls Tryz.prog 120 #[.slice (some ⟨b,o,none⟩) 128 cap] w (fun e w'=>(Holds ps ∧ ∃g g',DecYes w ps e w' g g')∨(¬Holds ps∧DecNo w e w')):=by
 have b1:=(Below.refl w.heap.size w).alloc (Nat.le_refl _) (.cells #[.bool false,.slice none 0 0,.slice none 0 0] 107)
 have hbw:=has_lt hb (by omega)
 have HB:=hid (hb.below hbw b1)
 have BB:=hid b1
 have RS:=hid (res_new w)
 have HL:=hid hlen
 have HS:=hid hs
 have HM:=hid hm
 have HK:ps[0]'(by omega)=headIn ps:=by unfold headIn; rw [List.getD,List.getElem?_eq_getElem (by omega)]; rfl
 have hO:=open_good b o cap ps _ HB.out hlen hc hm hs
 rw [HK] at hO
 have HO:=hid hO
 clear hb hlen b1 hs hm HK hO
 go_enter Tryz.func120,Tryz.ntmps120
 go_wp2_with fail
 refine HO.out.mono ?_
 rintro e w2 ⟨g,rfl,F2⟩
 have R2:=RS.out.below F2.below RS.out.lt
 have HP2:=hid (HB.out.below (Nat.lt_of_lt_of_le hbw BB.out.size) F2.below)
 have B2:=hid (BB.out.trans (F2.below.mono BB.out.size))
 have hbl:(bodyIn ps).length=123:=by have:=HL.out; unfold bodyIn; simp; omega
 have hrg:w.heap.size<g:=Nat.lt_of_lt_of_le (by simp) F2.lo
 have hg2:=F2.hi
 obtain ⟨BK,RQ⟩:=book_start w2 g (bodyIn ps) (kAt (bodyIn ps)) (vAt (bodyIn ps)) F2.has hbl
 have HBK:=hid BK
 have HRQ:=hid RQ
 have b3:=((((Below.refl w2.heap.size w2).alloc (Nat.le_refl _) (.cells #[.slice (some ⟨g,0,none⟩) 123 123] 45)).alloc (by simp) (.cells #[.int .u64 0,.int .u64 0,.int .u64 0,.int .u64 0,.int .u64 0,.int .u64 0,.int .u64 0,.int .u64 0,.int .u64 0,.int .u64 0,.int .u64 0,.int .u64 0,.int .u64 0,.int .u64 0,.int .u64 0] 201)).alloc (by simp; omega) (.cells #[.int .i64 0] 3))
 have R3:=hid (R2.below b3 R2.lt)
 have B3:=hid (B2.out.trans (b3.mono (Nat.le_of_lt R2.lt)))
 have HP3:=hid (HP2.out.below (Nat.lt_of_lt_of_le hbw B2.out.size) b3)
 have hr2:=R2.lt
 clear F2 R2 BK RQ b3 HO
 go_wp2_with fail
 generalize ((w2.alloc (.cells #[.slice (some ⟨g,0,none⟩) 123 123] 45)).alloc (.cells #[.int .u64 0,.int .u64 0,.int .u64 0,.int .u64 0,.int .u64 0,.int .u64 0,.int .u64 0,.int .u64 0,.int .u64 0,.int .u64 0,.int .u64 0,.int .u64 0,.int .u64 0,.int .u64 0,.int .u64 0] 201)).alloc (.cells #[.int .i64 0] 3)=w3 at *
 refine (each_dec HBK.out HRQ.out (by omega) (by omega) (by omega)).mono ?_
 rintro e w4 ⟨rfl,R4,A4⟩
 dsimp only
 obtain ⟨x0,x1,x2,x3,x4,x5,x6,hx⟩ : ∃x0 x1 x2 x3 x4 x5 x6,upTo (kAt (bodyIn ps)) 7 = [x0,x1,x2,x3,x4,x5,x6]:=⟨_,_,_,_,_,_,_,rfl⟩
 obtain ⟨y0,y1,y2,y3,y4,y5,y6,hy⟩ : ∃x0 x1 x2 x3 x4 x5 x6,upTo (vAt (bodyIn ps)) 7 = [x0,x1,x2,x3,x4,x5,x6]:=⟨_,_,_,_,_,_,_,rfl⟩
 have HKI:=hid (show keysIn ps = [x0,x1,x2,x3,x4,x5,x6].take (cAt (bodyIn ps)).toNat by unfold keysIn; rw [hx])
 have HVI:=hid (show valsIn ps = [y0,y1,y2,y3,y4,y5,y6].take (cAt (bodyIn ps)).toNat by unfold valsIn; rw [hy])
 have HHO:=hid (show Holds ps→(cAt (bodyIn ps)).toNat≤7 from fun h=>h.2.2.1)
 have HHI:=hid (show (cAt (bodyIn ps)).toNat≤7→Fit (leafIn ps) (keysIn ps) (valsIn ps)→nodePage (leafIn ps) (keysIn ps) (valsIn ps)=ps→Holds ps from fun a b c=>⟨HL.out,HS.out,a,b,c⟩)
 rw [hx,hy] at R4
 generalize cAt (bodyIn ps)=cn at *
 clear hx hy
 have R5:Res w4 w.heap.size:=R3.out.below (A4.below (B:=w.heap.size+1) (by omega) (by omega)) (by omega)
 have B4:=B3.out.trans (A4.below (B:=w.heap.size) (by omega) (by omega))
 have HP4:=hid (show Has w4 b o ps from fun i hi=>(World.cell?_of_block (A4.block b (by omega) (by omega))).trans (HP3.out i hi))
 have hq4:w2.heap.size+1<w4.heap.size:=R4.lt
 have KS:=hid (show ∀w',Below w4.heap.size w4 w'→(w'.cell? ⟨w2.heap.size+1,0,none⟩=some (.int .u64 (cn.toNat:Int))∧w'.cell? ⟨w2.heap.size+1,1,none⟩=some (.int .u64 (x0.toNat:Int))∧w'.cell? ⟨w2.heap.size+1,2,none⟩=some (.int .u64 (x1.toNat:Int))∧w'.cell? ⟨w2.heap.size+1,3,none⟩=some (.int .u64 (x2.toNat:Int))∧w'.cell? ⟨w2.heap.size+1,4,none⟩=some (.int .u64 (x3.toNat:Int))∧w'.cell? ⟨w2.heap.size+1,5,none⟩=some (.int .u64 (x4.toNat:Int))∧w'.cell? ⟨w2.heap.size+1,6,none⟩=some (.int .u64 (x5.toNat:Int))∧w'.cell? ⟨w2.heap.size+1,7,none⟩=some (.int .u64 (x6.toNat:Int))∧w'.cell? ⟨w2.heap.size+1,8,none⟩=some (.int .u64 (y0.toNat:Int))∧w'.cell? ⟨w2.heap.size+1,9,none⟩=some (.int .u64 (y1.toNat:Int))∧w'.cell? ⟨w2.heap.size+1,10,none⟩=some (.int .u64 (y2.toNat:Int))∧w'.cell? ⟨w2.heap.size+1,11,none⟩=some (.int .u64 (y3.toNat:Int))∧w'.cell? ⟨w2.heap.size+1,12,none⟩=some (.int .u64 (y4.toNat:Int))∧w'.cell? ⟨w2.heap.size+1,13,none⟩=some (.int .u64 (y5.toNat:Int))∧w'.cell? ⟨w2.heap.size+1,14,none⟩=some (.int .u64 (y6.toNat:Int))) from fun w' k=>⟨(k.cell (p:=⟨w2.heap.size+1,0,none⟩) hq4).trans (R4.cellAt (i:=0) rfl),(k.cell (p:=⟨w2.heap.size+1,1,none⟩) hq4).trans (R4.cellAt (i:=1) rfl),(k.cell (p:=⟨w2.heap.size+1,2,none⟩) hq4).trans (R4.cellAt (i:=2) rfl),(k.cell (p:=⟨w2.heap.size+1,3,none⟩) hq4).trans (R4.cellAt (i:=3) rfl),(k.cell (p:=⟨w2.heap.size+1,4,none⟩) hq4).trans (R4.cellAt (i:=4) rfl),(k.cell (p:=⟨w2.heap.size+1,5,none⟩) hq4).trans (R4.cellAt (i:=5) rfl),(k.cell (p:=⟨w2.heap.size+1,6,none⟩) hq4).trans (R4.cellAt (i:=6) rfl),(k.cell (p:=⟨w2.heap.size+1,7,none⟩) hq4).trans (R4.cellAt (i:=7) rfl),(k.cell (p:=⟨w2.heap.size+1,8,none⟩) hq4).trans (R4.cellAt (i:=8) rfl),(k.cell (p:=⟨w2.heap.size+1,9,none⟩) hq4).trans (R4.cellAt (i:=9) rfl),(k.cell (p:=⟨w2.heap.size+1,10,none⟩) hq4).trans (R4.cellAt (i:=10) rfl),(k.cell (p:=⟨w2.heap.size+1,11,none⟩) hq4).trans (R4.cellAt (i:=11) rfl),(k.cell (p:=⟨w2.heap.size+1,12,none⟩) hq4).trans (R4.cellAt (i:=12) rfl),(k.cell (p:=⟨w2.heap.size+1,13,none⟩) hq4).trans (R4.cellAt (i:=13) rfl),(k.cell (p:=⟨w2.heap.size+1,14,none⟩) hq4).trans (R4.cellAt (i:=14) rfl)⟩)
 have HB4:=hid B4
 have HR5:=hid R5
 obtain ⟨c0,k0,k1,k2,k3,k4,k5,k6,v0,v1,v2,v3,v4,v5,v6⟩:=KS.out _ (Below.refl _ _)
 clear R4 A4 B4 R3 HBK HRQ B3 HP3 HP2 B2 BB RS R5 HB
 by_cases hn:cn.toNat≤7
 ·have hkd:(((headIn ps).toNat:Int)==1)=leafIn ps:=by
   unfold leafIn
   rw [Bool.eq_iff_iff,beq_iff_eq,beq_iff_eq,← UInt8.toNat_inj]
   show _↔(headIn ps).toNat=1
   omega
  go_wp2_with fail
  go_region_held3 (fun w'=>w'.cell? ⟨w2.heap.size+1,0,none⟩=some (.int .u64 (cn.toNat:Int))∧w'.cell? ⟨w2.heap.size+1,1,none⟩=some (.int .u64 (x0.toNat:Int))∧w'.cell? ⟨w2.heap.size+1,2,none⟩=some (.int .u64 (x1.toNat:Int))∧w'.cell? ⟨w2.heap.size+1,3,none⟩=some (.int .u64 (x2.toNat:Int))∧w'.cell? ⟨w2.heap.size+1,4,none⟩=some (.int .u64 (x3.toNat:Int))∧w'.cell? ⟨w2.heap.size+1,5,none⟩=some (.int .u64 (x4.toNat:Int))∧w'.cell? ⟨w2.heap.size+1,6,none⟩=some (.int .u64 (x5.toNat:Int))∧w'.cell? ⟨w2.heap.size+1,7,none⟩=some (.int .u64 (x6.toNat:Int))∧w'.cell? ⟨w2.heap.size+1,8,none⟩=some (.int .u64 (y0.toNat:Int))∧w'.cell? ⟨w2.heap.size+1,9,none⟩=some (.int .u64 (y1.toNat:Int))∧w'.cell? ⟨w2.heap.size+1,10,none⟩=some (.int .u64 (y2.toNat:Int))∧w'.cell? ⟨w2.heap.size+1,11,none⟩=some (.int .u64 (y3.toNat:Int))∧w'.cell? ⟨w2.heap.size+1,12,none⟩=some (.int .u64 (y4.toNat:Int))∧w'.cell? ⟨w2.heap.size+1,13,none⟩=some (.int .u64 (y5.toNat:Int))∧w'.cell? ⟨w2.heap.size+1,14,none⟩=some (.int .u64 (y6.toNat:Int))) ((refine KS.out _ ?_; (repeat' (first | with_reducible exact Below.refl _ _ | with_reducible exact HBK.out | with_reducible exact HBV.out | with_reducible refine Below.drew ?_ | with_reducible refine Below.setCell ?_ (by first | exact HBV.out.size | exact HBK.out.size | exact Nat.le_refl _) _ | with_reducible refine Below.alloc ?_ (by first | exact HBV.out.size | exact HBK.out.size | exact Nat.le_refl _) _)))) (first | (go_at_call 177; with_reducible refine (list_any x0 x1 x2 x3 x4 x5 x6 _ hn _).mono ?_; rintro e wk ⟨gk,rfl,Fk⟩; have HBK:=hid (show Below w4.heap.size w4 wk from Below.trans (by (repeat' (first | with_reducible exact Below.refl _ _ | with_reducible exact HBK.out | with_reducible exact HBV.out | with_reducible refine Below.drew ?_ | with_reducible refine Below.setCell ?_ (by first | exact HBV.out.size | exact HBK.out.size | exact Nat.le_refl _) _ | with_reducible refine Below.alloc ?_ (by first | exact HBV.out.size | exact HBK.out.size | exact Nat.le_refl _) _))) (Fk.below.mono (Below.size (B:=w4.heap.size) (by (repeat' (first | with_reducible exact Below.refl w4.heap.size w4 | with_reducible exact HBK.out | with_reducible exact HBV.out | with_reducible refine Below.drew ?_ | with_reducible refine Below.setCell ?_ (by first | exact HBV.out.size | exact HBK.out.size | exact Nat.le_refl _) _ | with_reducible refine Below.alloc ?_ (by first | exact HBV.out.size | exact HBK.out.size | exact Nat.le_refl _) _)))))); have HZK:=hid (fun a (h:Res _ a)=>h.below Fk.below h.lt); have HFK:=hid Fk; clear Fk; (try (first | (with_reducible have ZZ:=HZK.out _ ZZ) | (with_reducible have ZZ:=HZK.out _ (res_new wv)) | (with_reducible have ZZ:=HZK.out _ ((res_new w4).still (Still.drew _)))); (try (have z0:=ZZ.c0; have z1:=ZZ.c1; have z2:=ZZ.c2; have zf0:=ZZ.f 0; have zf1:=ZZ.f 1; have zf2:=ZZ.f 2; have zlt:=ZZ.lt)))) | (go_at_call 177; with_reducible refine (list_any y0 y1 y2 y3 y4 y5 y6 _ hn _).mono ?_; rintro e wv ⟨gv,rfl,Fv⟩; have HBV:=hid (show Below w4.heap.size w4 wv from Below.trans (by (repeat' (first | with_reducible exact Below.refl _ _ | with_reducible exact HBK.out | with_reducible exact HBV.out | with_reducible refine Below.drew ?_ | with_reducible refine Below.setCell ?_ (by first | exact HBV.out.size | exact HBK.out.size | exact Nat.le_refl _) _ | with_reducible refine Below.alloc ?_ (by first | exact HBV.out.size | exact HBK.out.size | exact Nat.le_refl _) _))) (Fv.below.mono (Below.size (B:=w4.heap.size) (by (repeat' (first | with_reducible exact Below.refl w4.heap.size w4 | with_reducible exact HBK.out | with_reducible exact HBV.out | with_reducible refine Below.drew ?_ | with_reducible refine Below.setCell ?_ (by first | exact HBV.out.size | exact HBK.out.size | exact Nat.le_refl _) _ | with_reducible refine Below.alloc ?_ (by first | exact HBV.out.size | exact HBK.out.size | exact Nat.le_refl _) _)))))); have HZV:=hid (fun a (h:Res _ a)=>h.below Fv.below h.lt); have HFV:=hid Fv; clear Fv; (try (first | (with_reducible have ZZ:=HZV.out _ ZZ) | (with_reducible have ZZ:=HZV.out _ (res_new wk)) | (with_reducible have ZZ:=HZV.out _ ((res_new w4).still (Still.drew _)))); (try (have z0:=ZZ.c0; have z1:=ZZ.c1; have z2:=ZZ.c2; have zf0:=ZZ.f 0; have zf1:=ZZ.f 1; have zf2:=ZZ.f 2; have zlt:=ZZ.lt)))))
  all_goals
   first
    | (have HMD:=hid (made_alloc (w4:=w4) (n:=cn.toNat) (leafIn ps) HFK.out HFV.out HBV.out))
    | (have HMD:=hid (made_set (w4:=w4) (n:=cn.toNat) (leafIn ps) HFK.out HFV.out (by simp) (Below.refl wk.heap.size wk) HBV.out ZZ (Nat.le_refl _) (by have:=HFK.out.lo; simp at this; omega) (by have:=HFV.out.lo; have:=HBK.out.size; have:=HFK.out.hi; have:=HFK.out.lo; simp at *; omega)))
    | (have HMD:=hid (made_set (w4:=w4) (n:=cn.toNat) (leafIn ps) HFK.out HFV.out (Nat.le_refl _) ((Below.refl wk.heap.size wk).alloc (Nat.le_refl _) _) HBV.out ZZ HBK.out.size (by have:=HFK.out.hi; omega) (by have:=HFV.out.lo; simp at this; omega)))
   have HMD2:=HMD.out
   rw [← HKI.out,← HVI.out] at HMD2
   have hkl:(keysIn ps).length=cn.toNat:=by rw [HKI.out]; simp; omega
   have hvl:(valsIn ps).length=cn.toNat:=by rw [HVI.out]; simp; omega
   have ND:=hid (made_nd HMD2 hkl hvl hn)
   have HMD3:=hid HMD2
   have HKL:=hid hkl
   have HPW:=hid (show Has w4 b o ps from HP4.out)
   clear HMD HMD2 hkl hvl HFK HFV HZK HZV
   by_cases hfit:Fit (leafIn ps) (keysIn ps) (valsIn ps)
   ·have HFT:=hid hfit
    have hpl:=length_nodeBody (keysIn ps) (valsIn ps) hfit.2.1
    have HPL:=hid (show (nodePage (leafIn ps) (keysIn ps) (valsIn ps)).length=128 from length_page _ _ (by have:=hfit.1; omega))
    clear hfit hpl
    go_wp2_with fail
    refine (encode_yes (leafIn ps) ND.out HFT.out).mono ?_
    rintro e w6 ⟨g2,rfl,F6⟩
    have HM6:=hid (made_keep HMD3.out F6.below)
    have HF6:=hid F6
    have R6:=HR5.out.below HM6.out.below HR5.out.lt
    have HP6:=hid (HPW.out.below (has_lt HPW.out (by rw [HL.out]; decide)) HM6.out.below)
    have m0:=HM6.out.n0
    have m1:=HM6.out.n1
    have m2:=HM6.out.n2
    have r0:=R6.c0
    have r1:=R6.c1
    have r2:=R6.c2
    have f0:=R6.f 0
    have f1:=R6.f 1
    have f2:=R6.f 2
    clear F6 R6 HMD3
    go_wp2_with fail
    refine (bytes_equal _ _ 128 128 128 cap (nodePage (leafIn ps) (keysIn ps) (valsIn ps)) ps HPL.out HL.out _ HF6.out.has.told HP6.out.told).mono ?_
    rintro e w7 ⟨rfl,rfl⟩
    by_cases heq:nodePage (leafIn ps) (keysIn ps) (valsIn ps)=ps
    ·rw [show (nodePage (leafIn ps) (keysIn ps) (valsIn ps)==ps)=true from by rw [beq_iff_eq]; exact heq]
     have HHD:=hid (HHI.out hn HFT.out heq)
     clear heq
     go_wp2_with fail
     have hrk:w.heap.size<w4.heap.size:=HR5.out.lt
     have RK:=(((HM6.out.rk.other (q:=w.heap.size) (i:=0) (v := .bool (leafIn ps)) (by have:=HM6.out.lk; omega)).other (q:=w.heap.size) (i:=1) (v := .slice (some ⟨gk,0,none⟩) cn.toNat cn.toNat) (by have:=HM6.out.lk; omega)).other (q:=w.heap.size) (i:=2) (v := .slice (some ⟨gv,0,none⟩) cn.toNat cn.toNat) (by have:=HM6.out.lk; omega))
     have RV:=(((HM6.out.rv.other (q:=w.heap.size) (i:=0) (v := .bool (leafIn ps)) (by have:=HM6.out.lv; omega)).other (q:=w.heap.size) (i:=1) (v := .slice (some ⟨gk,0,none⟩) cn.toNat cn.toNat) (by have:=HM6.out.lv; omega)).other (q:=w.heap.size) (i:=2) (v := .slice (some ⟨gv,0,none⟩) cn.toNat cn.toNat) (by have:=HM6.out.lv; omega))
     refine bodyPost_ret (v := .tuple #[.agg #[.bool (leafIn ps),.slice (some ⟨gk,0,none⟩) cn.toNat cn.toNat,.slice (some ⟨gv,0,none⟩) cn.toNat cn.toNat],.int .i64 0]) ?_ rfl (Or.inl ⟨HHD.out,gk,gv,by rw [HKL.out],RK,RV,by have:=HM6.out.lk; have:=HB4.out.size; omega,by have:=HM6.out.lv; have:=HB4.out.size; omega,HM6.out.ne,?_⟩)
     ·rw [results_cell_tmp rfl]
      go_simp
     ·exact (((HB4.out.trans (HM6.out.below.mono HB4.out.size)).setCell (p:=⟨w.heap.size,0,none⟩) (Nat.le_refl _) (.bool (leafIn ps))).setCell (p:=⟨w.heap.size,1,none⟩) (Nat.le_refl _) (.slice (some ⟨gk,0,none⟩) cn.toNat cn.toNat)).setCell (p:=⟨w.heap.size,2,none⟩) (Nat.le_refl _) (.slice (some ⟨gv,0,none⟩) cn.toNat cn.toNat)
    ·rw [show (nodePage (leafIn ps) (keysIn ps) (valsIn ps)==ps)=false from by rw [beq_eq_false_iff_ne]; exact heq]
     have HHD:=hid (show ¬Holds ps from fun h=>heq h.2.2.2.2)
     clear heq
     go_wp2_with fail
     refine bodyPost_ret (v := .tuple #[.agg #[.bool false,.slice none 0 0,.slice none 0 0],.int .i64 30]) ?_ rfl (Or.inr ⟨HHD.out,rfl,?_⟩)
     ·rw [results_cell_tmp rfl]
      go_simp
     ·exact (((HB4.out.trans (HM6.out.below.mono HB4.out.size)).setCell (p:=⟨w.heap.size,0,none⟩) (Nat.le_refl _) (.bool false)).setCell (p:=⟨w.heap.size,1,none⟩) (Nat.le_refl _) (.slice none 0 0)).setCell (p:=⟨w.heap.size,2,none⟩) (Nat.le_refl _) (.slice none 0 0)
   ·have HHD:=hid (show ¬Holds ps from fun h=>hfit h.2.2.2.1)
    go_wp2_with fail
    refine (encode_no (leafIn ps) ND.out (by omega) (by omega) hfit).mono ?_
    rintro e w6 ⟨rfl,B6⟩
    have HM6:=hid (made_keep HMD3.out B6)
    have R6:=HR5.out.below HM6.out.below HR5.out.lt
    have r0:=R6.c0
    have r1:=R6.c1
    have r2:=R6.c2
    have f0:=R6.f 0
    have f1:=R6.f 1
    have f2:=R6.f 2
    clear hfit B6 R6 HMD3
    go_wp2_with fail
    refine bodyPost_ret (v := .tuple #[.agg #[.bool false,.slice none 0 0,.slice none 0 0],.int .i64 30]) ?_ rfl (Or.inr ⟨HHD.out,rfl,?_⟩)
    ·rw [results_cell_tmp rfl]
     go_simp
    ·exact (((HB4.out.trans (HM6.out.below.mono HB4.out.size)).setCell (p:=⟨w.heap.size,0,none⟩) (Nat.le_refl _) (.bool false)).setCell (p:=⟨w.heap.size,1,none⟩) (Nat.le_refl _) (.slice none 0 0)).setCell (p:=⟨w.heap.size,2,none⟩) (Nat.le_refl _) (.slice none 0 0)
 ·have r0:=HR5.out.c0
  have r1:=HR5.out.c1
  have r2:=HR5.out.c2
  have f0:=HR5.out.f 0
  have f1:=HR5.out.f 1
  have f2:=HR5.out.f 2
  go_wp2_with fail
  refine bodyPost_ret (v := .tuple #[.agg #[.bool false,.slice none 0 0,.slice none 0 0],.int .i64 30]) ?_ rfl (Or.inr ⟨fun h=>hn (HHO.out h),rfl,?_⟩)
  ·rw [results_cell_tmp rfl]
   go_simp
  ·exact ((HB4.out.setCell (p:=⟨w.heap.size,0,none⟩) (Nat.le_refl _) (.bool false)).setCell (p:=⟨w.heap.size,1,none⟩) (Nat.le_refl _) (.slice none 0 0)).setCell (p:=⟨w.heap.size,2,none⟩) (Nat.le_refl _) (.slice none 0 0)
end Go.Proofs.YtogchamogbendaaGreat.Lf
namespace Go.Proofs.YtogchamogbendaaGreat.Lf
open Go.RowKit Oct
theorem pairs_drop (ks vs:List UInt64) (h:ks.length=vs.length) (j:Nat) (hj:j≤ks.length):(pairs ks vs).drop (16*j)=pairs (ks.drop j) (vs.drop j):=by
 induction j generalizing ks vs with
 | zero=>simp
 | succ j ih =>
  cases ks with
  | nil=>simp at hj
  | cons k ks =>
   cases vs with
   | nil=>simp at h
   | cons v vs =>
    simp only [pairs,List.drop_succ_cons]
    rw [← ih ks vs (by simpa using h) (by simpa using hj),List.drop_append,List.drop_of_length_le (by simp [length_bytesOf]; omega)]
    simp only [List.length_append,length_bytesOf,List.nil_append]
    rw [show 16*(j+1)-(8+8)=16*j by omega]
theorem full_drop (ks vs:List UInt64) (h:vs.length=ks.length) (j:Nat) (hj:j≤ks.length):(fullBody ks vs).drop (1+16*j)=pairs (ks.drop j) (vs.drop j)++List.replicate (123-(nodeBody ks vs).length) 0:=by
 unfold fullBody nodeBody
 rw [List.append_assoc,List.drop_append,List.drop_of_length_le (by rw [length_bytesOf]; omega),List.nil_append,length_bytesOf,show 1+16*j-1=16*j by omega,List.drop_append_of_le_length (by rw [length_pairs _ _ h.symm]; omega),pairs_drop _ _ h.symm _ hj]
theorem num_u64 (x:UInt64):UInt64.ofNat (num (bytesOf x.toNat 8))=x:=by
  rw [num_bytesOf, Nat.mod_eq_of_lt (by have := u64_lt x; have e : (256 : Nat) ^ 8 = 18446744073709551616 := by decide
                                        omega)]
  simp
theorem kAt_full (ks vs:List UInt64) (h:vs.length=ks.length) (j:Nat) (hj:j<ks.length):kAt (fullBody ks vs) j=ks[j]:=by
 unfold kAt
 rw [full_drop ks vs h j (by omega),List.drop_eq_getElem_cons hj,List.drop_eq_getElem_cons (by omega:j<vs.length)]
 simp only [pairs]
 rw [List.append_assoc,List.append_assoc,List.take_append_of_le_length (by rw [length_bytesOf]; omega),List.take_of_length_le (by rw [length_bytesOf]; omega),num_u64]
theorem vAt_full (ks vs:List UInt64) (h:vs.length=ks.length) (j:Nat) (hj:j<ks.length):vAt (fullBody ks vs) j=vs[j]'(by omega):=by
 unfold vAt
 rw [show 9+16*j=(1+16*j)+8 by omega,← List.drop_drop,full_drop ks vs h j (by omega),List.drop_eq_getElem_cons hj,List.drop_eq_getElem_cons (by omega:j<vs.length)]
 simp only [pairs]
 rw [List.append_assoc,List.append_assoc,List.drop_append,List.drop_of_length_le (by rw [length_bytesOf]; omega),List.nil_append,length_bytesOf,Nat.sub_self,List.drop_zero,List.take_append_of_le_length (by rw [length_bytesOf]; omega),List.take_of_length_le (by rw [length_bytesOf]; omega),num_u64]
theorem cAt_full (ks vs:List UInt64) (h7:ks.length≤7):(cAt (fullBody ks vs)).toNat=ks.length:=by
 unfold cAt fullBody nodeBody
 rw [List.drop_zero,List.append_assoc,List.take_append_of_le_length (by rw [length_bytesOf]; omega),List.take_of_length_le (by rw [length_bytesOf]; omega),num_bytesOf]
 simp
 omega
theorem body_in (l:Bool) (ks vs:List UInt64) (h:vs.length=ks.length) (h7:ks.length≤7):bodyIn (nodePage l ks vs)=fullBody ks vs:=by
 unfold bodyIn nodePage fullBody
 exact page_body _ _ (by rw [length_nodeBody ks vs h]; omega)
theorem leaf_in (l:Bool) (ks vs:List UInt64):leafIn (nodePage l ks vs)=l:=by
 cases l <;> rfl
theorem keys_in (l:Bool) (ks vs:List UInt64) (h:vs.length=ks.length) (h7:ks.length≤7):keysIn (nodePage l ks vs)=ks:=by
 unfold keysIn
 rw [body_in l ks vs h h7,cAt_full ks vs h7,upTo_seven _ _ h7]
 apply List.ext_getElem
 ·simp
 ·intro i h1 h2
  simp only [List.getElem_map,List.getElem_range]
  exact kAt_full ks vs h i h2
theorem vals_in (l:Bool) (ks vs:List UInt64) (h:vs.length=ks.length) (h7:ks.length≤7):valsIn (nodePage l ks vs)=vs:=by
 unfold valsIn
 rw [body_in l ks vs h h7,cAt_full ks vs h7,upTo_seven _ _ h7]
 apply List.ext_getElem
 ·simp [h]
 ·intro i h1 h2
  simp only [List.getElem_map,List.getElem_range]
  exact vAt_full ks vs h i (by omega)
theorem length_nodePage (l:Bool) (ks vs:List UInt64) (h:vs.length=ks.length) (h7:ks.length≤7):(nodePage l ks vs).length=128:=length_page _ _ (by rw [length_nodeBody ks vs h]; omega)
theorem good_nodePage (l:Bool) (ks vs:List UInt64) (h:vs.length=ks.length) (h7:ks.length≤7):Oct.Good (nodePage l ks vs):=page_good _ _ (by rw [length_nodeBody ks vs h]; omega)
theorem holds_page (l:Bool) (ks vs:List UInt64) (hf:Fit l ks vs):Holds (nodePage l ks vs):=by
 have h:=hf.2.1
 have h7:=hf.1
 refine ⟨length_nodePage l ks vs h h7,good_nodePage l ks vs h h7,?_,?_,?_⟩
 ·rw [body_in l ks vs h h7,cAt_full ks vs h7]; exact h7
 ·rw [leaf_in,keys_in l ks vs h h7,vals_in l ks vs h h7]; exact hf
 ·rw [leaf_in,keys_in l ks vs h h7,vals_in l ks vs h h7]
structure Dec (w:World) (l:Bool) (ks vs:List UInt64) (e:Ending) (w':World) (n g g':Nat):Prop where
 e:e = .returned (.tuple #[.agg #[.bool l,.slice (some ⟨g,0,none⟩) n n,.slice (some ⟨g',0,none⟩) n n],.int .i64 0])
 ks:RowN w' g 30 ks
 vs:RowN w' g' 30 vs
 lo:w.heap.size≤g
 lo':w.heap.size≤g'
 ne:g≠g'
 below:Below w.heap.size w w'
theorem decode_page (l:Bool) (ks vs:List UInt64) (hf:Fit l ks vs) (n:Nat) (hn:ks.length=n) (b o cap:Nat) (w:World) (hb:Has w b o (nodePage l ks vs)) (hc:128≤cap) (hm:cap≤maxLen) :
  Calls Tryz.prog 120 #[.slice (some ⟨b,o,none⟩) 128 cap] w fun e w' => ∃g g',Dec w l ks vs e w' n g g':=by
 have h:=hf.2.1
 have h7:=hf.1
 refine (decode_good b o cap _ w hb (length_nodePage l ks vs h h7) hc hm (good_nodePage l ks vs h h7)).mono ?_
 rintro e w' (⟨_,g,g',D⟩ | ⟨hno,_⟩)
 ·have he:=D.e
  have hk:=D.ks
  have hv:=D.vs
  rw [leaf_in,keys_in l ks vs h h7,hn] at he
  rw [keys_in l ks vs h h7] at hk
  rw [vals_in l ks vs h h7] at hv
  exact ⟨g,g',he,hk,hv,D.lo,D.lo',D.ne,D.below⟩
 ·exact absurd (holds_page l ks vs hf) hno
theorem decode_any (a:Option Addr) (len cap:Nat) (ps:List UInt8) (hlen:ps.length=len) (hc:len≤cap) (hm:cap≤maxLen) (w:World) (hb:Oct.Told w a ps) :
  Calls Tryz.prog 120 #[.slice a len cap] w (fun e w'=>(Holds ps ∧ ∃g g',DecYes w ps e w' g g')∨(¬Holds ps∧DecNo w e w')):=by
 by_cases h128:len=128
 ·subst h128
  rcases hb with h0 | ⟨b,o,rfl,hb⟩
  ·subst h0; simp at hlen
  ·by_cases hg:Oct.Good ps
   ·exact decode_good b o cap ps w hb hlen hc hm hg
   ·exact (decode_sum b o cap ps w hb hlen hc hm hg).mono fun e w' h => .inr ⟨fun hh=>hg hh.2.1,h⟩
 ·exact (decode_len a len cap w h128 (Nat.le_trans hc hm)).mono fun e w' h => .inr ⟨fun hh=>h128 (by rw [← hlen,hh.1]),h⟩
theorem nd_nil (w:World):Nd w none 0 0 none 0 0 [] []:=⟨rfl,rfl,Nat.le_refl _,Nat.zero_le _,Nat.le_refl _,Nat.zero_le _,.inl rfl,.inl rfl⟩
def eight:List UInt64 := [0,1,2,3,4,5,6,7]
end Go.Proofs.YtogchamogbendaaGreat.Lf
namespace Go.Proofs.YtogchamogbendaaGreat.Lf
open Go.RowKit Oct Go.ChangeShapes Go.WideShapes Go.ChangeAt
section
variable {H:Type} {enc:TypeId×Value→H} {W:World}
end
end Go.Proofs.YtogchamogbendaaGreat.Lf
