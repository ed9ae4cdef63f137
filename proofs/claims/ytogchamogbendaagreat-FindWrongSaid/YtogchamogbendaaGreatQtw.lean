import Derived.Deep.LoopGhost
import Derived.Deep.Draws
import Derived.Test.YtogchamogbendaaGreatQtu
import Derived.Test.YtogchamogbendaaGreatQtv
import Derived.Test.YtogchamogbendaaGreatQtg
import Derived.Test.YtogchamogbendaaGreatQtd
set_option maxRecDepth 100000
set_option linter.unusedVariables false
set_option linter.unusedSimpArgs false
namespace Go.Proofs.YtogchamogbendaaGreat.No
open Lib (hid)
open Go.RowKit Oct Lf
def Ok (l:Bool) (ks vs:List UInt64):Prop:=ks.length≤7∧vs.length=ks.length∧Rises ks∧(l=true∨0<ks.length)
instance (l:Bool) (ks vs:List UInt64):Decidable (Ok l ks vs):=by unfold Ok; infer_instance
def low (ns:List UInt64) (k:UInt64):Nat:=ns.countP (fun x=>decide (x.toNat<k.toNat))
theorem low_le (ns:List UInt64) (k:UInt64):low ns k≤ns.length:=List.countP_le_length
theorem low_at (ns:List UInt64) (k:UInt64) (h:Nat) (hl:h≤ns.length) (h1 : ∀t,t<h→(ns.getD t 0).toNat<k.toNat) (h2 : ∀t,h≤t→t<ns.length→k.toNat≤(ns.getD t 0).toNat):low ns k=h:=by
 unfold low
 rw [← List.take_append_drop h ns,List.countP_append]
 have e1:(ns.take h).countP (fun x=>decide (x.toNat<k.toNat))=h:=by
  rw [List.countP_eq_length.2,List.length_take,Nat.min_eq_left hl]
  intro x hx
  obtain ⟨i,hi,rfl⟩:=List.mem_iff_getElem.1 hx
  rw [List.length_take] at hi
  have:=h1 i (by omega)
  rw [List.getD_eq_getElem?_getD,List.getElem?_eq_getElem (by omega)] at this
  rw [List.getElem_take]
  simpa using this
 have e2:(ns.drop h).countP (fun x=>decide (x.toNat<k.toNat))=0:=by
  rw [List.countP_eq_zero]
  intro x hx
  obtain ⟨i,hi,rfl⟩:=List.mem_iff_getElem.1 hx
  rw [List.length_drop] at hi
  have:=h2 (h+i) (by omega) (by omega)
  rw [List.getD_eq_getElem?_getD,List.getElem?_eq_getElem (by omega)] at this
  rw [List.getElem_drop]
  simpa using this
 omega
theorem mem_at (ns:List UInt64) (k:UInt64) (h:Nat) (hs:Rises ns) (h1 : ∀t,t<h→(ns.getD t 0).toNat<k.toNat) (h2 : ∀t,h≤t→t<ns.length→k.toNat≤(ns.getD t 0).toNat):k∈ns↔h<ns.length∧ns.getD h 0=k:=by
 constructor
 ·intro hk
  obtain ⟨i,hi,rfl⟩:=List.mem_iff_getElem.1 hk
  have e:ns.getD i 0=ns[i]:=by rw [List.getD_eq_getElem?_getD,List.getElem?_eq_getElem hi]; rfl
  rcases Nat.lt_trichotomy i h with c | c | c
  ·have:=h1 i c
   rw [e] at this
   omega
  ·subst c
   exact ⟨hi,e⟩
  ·have h3:=h2 h (Nat.le_refl _) (by omega)
   have e3:ns.getD h 0=ns[h]'(by omega):=by rw [List.getD_eq_getElem?_getD,List.getElem?_eq_getElem (by omega)]; rfl
   have h4:=(List.pairwise_iff_getElem.1 hs) h i (by omega) hi c
   rw [e3] at h3
   omega
 ·rintro ⟨hh,rfl⟩
  rw [List.getD_eq_getElem?_getD,List.getElem?_eq_getElem hh]
  exact List.getElem_mem hh
theorem rises_getD {ns:List UInt64} (h:Rises ns) {a b:Nat} (hab:a≤b) (hb:b<ns.length):(ns.getD a 0).toNat≤(ns.getD b 0).toNat:=by
 rw [List.getD_eq_getElem?_getD,List.getElem?_eq_getElem (by omega),List.getD_eq_getElem?_getD,List.getElem?_eq_getElem hb]
 rcases Nat.lt_or_ge a b with c | c
 ·exact Nat.le_of_lt ((List.pairwise_iff_getElem.1 h) a b (by omega) hb c)
 ·obtain rfl:a=b:=by omega
  exact Nat.le_refl _
theorem nan_cmp (x:Int) (w:World):Calls Tryz.prog 221 #[.int .u64 x] w fun e w'=>e = .returned (.bool false)∧w=w':=by
 have hx:(x != x)=false:=by simp
 go_enter Tryz.func221,Tryz.ntmps221
 go_wp2_with fail
 go_ret
 exact ⟨by simp,rfl⟩
theorem nan_sl (x:Int) (w:World):Calls Tryz.prog 207 #[.int .u64 x] w fun e w'=>e = .returned (.bool false)∧w=w':=by
 have hx:(x != x)=false:=by simp
 go_enter Tryz.func207,Tryz.ntmps207
 go_wp2_with fail
 go_ret
 exact ⟨by simp,rfl⟩
theorem less_any (x y:Int) (w:World):Calls Tryz.prog 206 #[.int .u64 x,.int .u64 y] w fun e w'=>e = .returned (.bool (decide (x<y)))∧w=w':=by
 go_enter Tryz.func206,Tryz.ntmps206
 go_wp2_with (go_at_call 221; refine (nan_cmp _ _).mono ?_; rintro e w' ⟨rfl,rfl⟩)
 go_ret
 exact ⟨rfl,rfl⟩
set_option maxHeartbeats 4000000 in
theorem search_any (A:Option Addr) (n c:Nat) (ns:List UInt64) (k:UInt64) (hlen:ns.length=n) (hbig:n≤1000000) (w:World) (hb:ToldN w A ns) (hs:Rises ns) :
  Calls Tryz.prog 172 #[.slice A n c,.int .u64 (k.toNat:Int)] w fun e w'=>e = .returned (.tuple #[.int .i64 (low ns k:Nat),.bool (decide (k∈ns))])∧Still w w':=by
 have HB:=hid hb
 have HL:=hid hlen
 have S:=hid hs
 clear hb hlen hs
 go_enter Tryz.func172,Tryz.ntmps172
 go_wp2_with fail
 go_loopg [7,8] n (fun g s7 s8 wr => ∃lo hi:Nat,s7 = .int .i64 lo∧s8 = .int .i64 hi∧lo≤hi∧hi≤n∧hi-lo≤g∧Hid (Still w wr)∧Hid (∀t,t<lo→(ns.getD t 0).toNat<k.toNat)∧Hid (∀t,hi≤t→t<n→k.toNat≤(ns.getD t 0).toNat))
 case atStart=>exact ⟨0,n,rfl,rfl,Nat.zero_le _,Nat.le_refl _,by omega,hid ⟨rfl,rfl,rfl,rfl⟩,hid (fun t ht=>absurd ht (Nat.not_lt_zero _)),hid (fun t h1 h2=>by omega)⟩
 case round =>
  obtain ⟨lo,hi,rfl,rfl,hlh,hin,hg,HS,I1,I2⟩:=hrel
  by_cases hlt:lo<hi
  ·obtain ⟨b,o,rfl,hH⟩:=HB.out.has (by rw [HL.out]; omega)
   have cm:=(HS.out.cell _).trans (hH ((lo+hi)/2) (by rw [HL.out]; omega))
   have Y:=hid (show ns.getD ((lo+hi)/2) 0=ns[(lo+hi)/2]'(by rw [HL.out]; omega) by rw [List.getD_eq_getElem?_getD,List.getElem?_eq_getElem (by rw [HL.out]; omega)]; rfl)
   generalize ns[(lo+hi)/2]'(by rw [HL.out]; omega)=y at cm Y
   clear hH
   by_cases hyx:y.toNat<k.toNat
   ·have hyi:(y.toNat:Int)<(k.toNat:Int):=by omega
    go_wp2_with (go_at_call 206; refine (less_any _ _ _).mono ?_; rintro e w' ⟨rfl,rfl⟩)
    go_roundg (hi-((lo+hi)/2+1))
    case measure=>omega
    case rel =>
     refine ⟨(lo+hi)/2+1,hi,by rw [show ((lo:Int)+(hi:Int))/2+1=(((lo+hi)/2+1:Nat):Int) by omega],rfl,by omega,hin,Nat.le_refl _,hid ⟨HS.out.os,HS.out.tape,HS.out.output,HS.out.heap⟩,hid (fun t ht => ?_),I2⟩
     have:=rises_getD S.out (a:=t) (b:=(lo+hi)/2) (by omega) (by rw [HL.out]; omega)
     rw [Y.out] at this
     omega
   ·have hyi : ¬(y.toNat:Int)<(k.toNat:Int):=by omega
    go_wp2_with (go_at_call 206; refine (less_any _ _ _).mono ?_; rintro e w' ⟨rfl,rfl⟩)
    go_roundg ((lo+hi)/2-lo)
    case measure=>omega
    case rel =>
     refine ⟨lo,(lo+hi)/2,rfl,by rw [show ((lo:Int)+(hi:Int))/2=(((lo+hi)/2:Nat):Int) by omega],by omega,by omega,Nat.le_refl _,hid ⟨HS.out.os,HS.out.tape,HS.out.output,HS.out.heap⟩,I1,hid (fun t ht htn => ?_)⟩
     have:=rises_getD S.out ht (by rw [HL.out]; omega)
     rw [Y.out] at this
     omega
  ·obtain rfl:hi=lo:=by omega
   have E1:=hid (low_at ns k hi (by rw [HL.out]; exact hin) I1.out (by rw [HL.out]; exact I2.out))
   have E2:=hid (mem_at ns k hi S.out I1.out (by rw [HL.out]; exact I2.out))
   by_cases hn:hi<n
   ·obtain ⟨b,o,rfl,hH⟩:=HB.out.has (by rw [HL.out]; omega)
    have cl:=(HS.out.cell _).trans (hH hi (by rw [HL.out]; omega))
    have Y:=hid (show ns.getD hi 0=ns[hi]'(by rw [HL.out]; omega) by rw [List.getD_eq_getElem?_getD,List.getElem?_eq_getElem (by rw [HL.out]; omega)]; rfl)
    generalize ns[hi]'(by rw [HL.out]; omega)=y at cl Y
    clear hH
    by_cases hyx:y=k
    ·subst hyx
     go_wp2_with (first | (go_at_call 207; refine (nan_sl _ _).mono ?_; rintro e w' ⟨rfl,rfl⟩))
     go_ret2
     refine ⟨?_,⟨HS.out.os,HS.out.tape,HS.out.output,HS.out.heap⟩⟩
     rw [E1.out,decide_eq_true (E2.out.2 ⟨by rw [HL.out]; exact hn,Y.out⟩)]
     first | rfl | simp
    ·have hne:=int_ne_of hyx
     go_wp2_with (first | (go_at_call 207; refine (nan_sl _ _).mono ?_; rintro e w' ⟨rfl,rfl⟩))
     go_ret2
     refine ⟨?_,⟨HS.out.os,HS.out.tape,HS.out.output,HS.out.heap⟩⟩
     rw [E1.out,decide_eq_false (fun h=>hyx (by rw [← Y.out]; exact (E2.out.1 h).2))]
     first | rfl | simp
   ·go_wp2_with (first | (go_at_call 207; refine (nan_sl _ _).mono ?_; rintro e w' ⟨rfl,rfl⟩))
    go_ret2
    refine ⟨?_,⟨HS.out.os,HS.out.tape,HS.out.output,HS.out.heap⟩⟩
    rw [E1.out,decide_eq_false (fun h=>hn (by rw [← HL.out]; exact (E2.out.1 h).1))]
    first | rfl | simp
end Go.Proofs.YtogchamogbendaaGreat.No
namespace Go.Proofs.YtogchamogbendaaGreat.No
open Lib (hid)
open Go.RowKit Oct Lf
set_option maxHeartbeats 400000 in
theorem rising_any (a:Option Addr) (len cap:Nat) (ns:List UInt64) (hlen:ns.length=len) (w:World) (hl:len≤1000000) (hb:ToldN w a ns) :
  Calls Tryz.prog 205 #[.slice a len cap] w fun e w'=>e = .returned (.bool (decide (Rises ns)))∧Still w w':=by
 have HB:=hid hb
 have HL:=hid hlen
 clear hb hlen
 go_enter Tryz.func205,Tryz.ntmps205
 go_wp2_with fail
 go_loopw [3] (fun i wr => ∃k:Nat,1≤k∧(k≤len∨k=1)∧i = .int .i64 (k:Int)∧Hid (Rises (ns.take k))∧Still w wr) (fun i _=>len-(intOf i).toNat)
 case atStart=>exact ⟨1,Nat.le_refl _,.inr rfl,rfl,hid (by
   unfold Rises
   rw [List.pairwise_iff_getElem]
   intro i j hi hj hij
   simp only [List.length_take] at hi hj
   omega),⟨rfl,rfl,rfl,rfl⟩⟩
 case round =>
  obtain ⟨k,hk1,hk,rfl,HN,HS⟩:=hrel
  by_cases hlt:k<len
  ·have hkn:k<ns.length:=by rw [HL.out]; exact hlt
   have hkn1:k-1<ns.length:=by omega
   obtain ⟨b,o,rfl,hH⟩:=HB.out.has (by omega)
   have hc:=(HS.cell _).trans (hH k hkn)
   have hd:=(HS.cell _).trans (hH (k-1) hkn1)
   have H1:=hid (fun hl=>rises_take_succ hk1 hkn HN.out hl)
   have H2:=hid (fun hl=>rises_not hk1 hkn hl)
   have HSt:=hid HS
   have hki:(k:Int)-1=((k-1:Nat):Int):=by omega
   have hcl:=u64_lt ns[k]
   have hdl:=u64_lt ns[k-1]
   generalize ns[k]=c at hc H1 H2 hcl
   generalize ns[k-1]=d at hd H1 H2 hdl
   clear hH HS HN
   by_cases hcd:d.toNat<c.toNat
   ·go_wp2_with fail
    go_quiet (fail)
    go_wp2_with fail
    go_roundw
    case rel=>exact ⟨k+1,by omega,.inl (by omega),by go_num,hid (H1.out hcd),⟨HSt.out.os,HSt.out.tape,HSt.out.output,HSt.out.heap⟩⟩
    case measure=>simp [intOf]; omega
   ·go_wp2_with fail
    go_quiet (fail)
    go_wp2_with fail
    go_ret
    exact ⟨by rw [decide_eq_false (H2.out hcd)]; rfl,⟨HSt.out.os,HSt.out.tape,HSt.out.output,HSt.out.heap⟩⟩
  ·have HSt:=hid HS
   clear HS
   go_wp2_with fail
   go_ret
   have:=HN.out
   rw [List.take_of_length_le (by rw [HL.out]; omega)] at this
   exact ⟨by rw [decide_eq_true this]; rfl,HSt.out⟩
theorem ok_leaf {ks vs:List UInt64} (h1:ks.length≤7) (h2:vs.length=ks.length) (h3:Rises ks):Ok true ks vs:=⟨h1,h2,h3,.inl rfl⟩
theorem ok_bare {ks vs:List UInt64} (h4 : ¬0<ks.length) : ¬Ok false ks vs:=fun h=>by
 rcases h.2.2.2 with h | h
 ·cases h
 ·exact h4 h
set_option maxHeartbeats 800000 in
theorem right_any (l:Bool) {w:World} {A B:Option Addr} {n c m d:Nat} {ks vs:List UInt64} (h:Nd w A n c B m d ks vs) :
  Calls Tryz.prog 171 #[.agg #[.bool l,.slice A n c,.slice B m d]] w fun e w'=>e = .returned (.bool (decide (Ok l ks vs)))∧Below w.heap.size w w':=by
 have HD:=hid h
 have hnk:ks.length=n:=h.kl
 have hvk:vs.length=m:=h.vl
 have HF:=hid (show Ok l ks vs↔(n≤7∧m=n∧Rises ks∧(l=true∨0<n)) by unfold Ok; rw [hnk,hvk])
 have hn63:=Nat.le_trans h.kc h.km
 have hm63:=Nat.le_trans h.vc h.vm
 unfold maxLen at hn63 hm63
 clear h hnk hvk
 have HB1:=hid (HD.out.boxed (.cells #[.bool l,.slice A n c,.slice B m d] 107))
 have BB:=hid ((Below.refl w.heap.size w).alloc (Nat.le_refl _) (.cells #[.bool l,.slice A n c,.slice B m d] 107))
 by_cases h1:n≤7
 ·by_cases h2:m=n
  ·subst h2
   have hmm:((m:Int) != (m:Int))=false:=by simp
   go_enter Tryz.func171,Tryz.ntmps171
   go_wp2_with fail
   refine (rising_any A m c ks HD.out.kl _ (by omega) HB1.out.ks).mono ?_
   rintro e w2 ⟨rfl,S2⟩
   by_cases h3:Rises ks
   ·rw [decide_eq_true h3]
    have e0:=(S2.cell ⟨w.heap.size,0,none⟩).trans (box_cell w _ _ 0 _ rfl)
    have e1:=(S2.cell ⟨w.heap.size,1,none⟩).trans (box_cell w _ _ 1 _ rfl)
    have BB2:=hid (BB.out.trans (S2.below _))
    clear S2
    cases l with
    | true =>
     go_wp2_with fail
     go_ret
     exact ⟨by rw [decide_eq_true (ok_leaf (by rw [HD.out.kl]; exact h1) (HD.out.vl.trans HD.out.kl.symm) h3)]; rfl,BB2.out⟩
    | false =>
     by_cases h4:0<m
     ·go_wp2_with fail
      go_ret
      exact ⟨by rw [decide_eq_true (show Ok false ks vs from ⟨by rw [HD.out.kl]; exact h1,HD.out.vl.trans HD.out.kl.symm,h3,.inr (by rw [HD.out.kl]; exact h4)⟩)]; rfl,BB2.out⟩
     ·go_wp2_with fail
      go_ret
      exact ⟨by rw [decide_eq_false (ok_bare (by rw [HD.out.kl]; exact h4))]; rfl,BB2.out⟩
   ·rw [decide_eq_false h3]
    go_wp2_with fail
    go_ret
    exact ⟨by rw [decide_eq_false (fun hf=>h3 (HF.out.1 hf).2.2.1)]; rfl,BB.out.trans (S2.below _)⟩
  ·have hmm:((m:Int) != (n:Int))=true:=by rw [bne_iff_ne]; omega
   go_enter Tryz.func171,Tryz.ntmps171
   go_wp2_with fail
   go_ret
   exact ⟨by rw [decide_eq_false (fun hf=>h2 (HF.out.1 hf).2.1)]; rfl,BB.out⟩
 ·go_enter Tryz.func171,Tryz.ntmps171
  go_wp2_with fail
  go_ret
  exact ⟨by rw [decide_eq_false (fun hf=>h1 (HF.out.1 hf).1)]; rfl,BB.out⟩
end Go.Proofs.YtogchamogbendaaGreat.No
