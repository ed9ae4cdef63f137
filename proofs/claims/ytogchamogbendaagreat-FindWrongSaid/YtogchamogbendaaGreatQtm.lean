import Derived.WalkKit
import Derived.ProofKit
import Derived.OpenShut
import Derived.ShutString
import Derived.ChangeOld
import Derived.Below
import Derived.Lib.Hide
import Derived.WalkSpells
import Derived.WalkLawsBesides
import Derived.Lib.ConvBytes
import Derived.Deep.QuietTactic
import Derived.BigQuiet
import Derived.Laws.CopyOwn
import Derived.Test.YtogchamogbendaaGreatQta
set_option maxRecDepth 100000
set_option linter.unusedVariables false
set_option linter.unusedSimpArgs false
namespace Go.Proofs.YtogchamogbendaaGreat.Oct
open Go.RowKit
theorem within_yes (a:Option Addr) (len cap:Nat) (p s:Int) (w:World) (hl:len≤maxLen) (h1:1≤s) (h8:s≤8) (h0:0≤p) (hp:p≤len-s) :
  Calls Tryz.prog 181 #[.slice a len cap,.int .i64 p,.int .i64 s] w fun e w'=>e = .returned (.bool true)∧w=w':=by
 unfold maxLen at hl
 go_enter Tryz.func181,Tryz.ntmps181
 go_wp2
 go_ret
 exact ⟨rfl,rfl⟩
theorem within_no (a:Option Addr) (len cap:Nat) (p s:Int) (w:World) (hl:len≤maxLen) (h : ¬(1≤s∧s≤8∧0≤p∧p≤len-s)) :
  Calls Tryz.prog 181 #[.slice a len cap,.int .i64 p,.int .i64 s] w fun e w'=>e = .returned (.bool false)∧w=w':=by
 unfold maxLen at hl
 by_cases h1:1≤s
 ·by_cases h8:s≤8
  ·by_cases h0:0≤p
   ·have hp : ¬p≤len-s:=by omega
    clear h
    go_enter Tryz.func181,Tryz.ntmps181
    go_wp2
    go_ret
    exact ⟨rfl,rfl⟩
   ·clear h
    go_enter Tryz.func181,Tryz.ntmps181
    go_wp2
    go_ret
    exact ⟨rfl,rfl⟩
  ·clear h
   go_enter Tryz.func181,Tryz.ntmps181
   go_wp2
   go_ret
   exact ⟨rfl,rfl⟩
 ·clear h
  go_enter Tryz.func181,Tryz.ntmps181
  go_wp2
  go_ret
  exact ⟨rfl,rfl⟩
end Go.Proofs.YtogchamogbendaaGreat.Oct
namespace Go.Proofs.YtogchamogbendaaGreat.Oct
def num (bs:List UInt8):Nat:=bs.foldl (fun n c=>n*256+c.toNat) 0
theorem num_nil:num []=0:=rfl
theorem num_snoc (bs:List UInt8) (c:UInt8):num (bs ++ [c])=num bs*256+c.toNat:=by simp [num,List.foldl_append]
theorem num_lt (bs:List UInt8):num bs<256 ^ bs.length:=by
 induction bs using snoc_ind with
 | h0=>simp [num_nil]
 | h1 bs c ih =>
  rw [num_snoc,List.length_append,List.length_singleton,Nat.pow_succ]
  have:=u8_lt c
  omega
theorem pow256_le (k:Nat) (h:k≤7):256 ^ k≤72057594037927936:=by
 have:(256:Nat) ^ k≤256 ^ 7:=Nat.pow_le_pow_right (by decide) h
 simpa using this
theorem num_lt7 (bs:List UInt8) (h:bs.length≤7):num bs<72057594037927936 :=
 Nat.lt_of_lt_of_le (num_lt bs) (pow256_le _ h)
theorem num_lt8 (bs:List UInt8) (h:bs.length≤8):num bs<18446744073709551616:=by
 have h1:=num_lt bs
 have:(256:Nat) ^ bs.length≤256 ^ 8:=Nat.pow_le_pow_right (by decide) h
 have h8:(256:Nat) ^ 8=18446744073709551616:=by decide
 omega
theorem window_snoc (bs:List UInt8) (p k:Nat) (h:p+k<bs.length):(bs.drop p).take (k+1)=(bs.drop p).take k ++ [bs[p+k]]:=by
 rw [List.take_succ_eq_append_getElem (by simp; omega)]
 simp
theorem or_step (n:Nat) (c:UInt8) (h:n<72057594037927936) :
  bits BinOp.or IntKind.u64 ((n:Int)*256) (c.toNat:Int)=((n*256+c.toNat:Nat):Int):=by
 have hc:=u8_lt c
 rw [show ((n:Int)*256)=((n*256:Nat):Int) by omega]
 have h1:(BitVec.ofInt 64 ((n*256:Nat):Int)).toNat=n*256:=by
  rw [BitVec.ofInt_natCast,BitVec.toNat_ofNat]; exact Nat.mod_eq_of_lt (by omega)
 have h2:(BitVec.ofInt 64 ((c.toNat:Nat):Int)).toNat=c.toNat:=by
  rw [BitVec.ofInt_natCast,BitVec.toNat_ofNat]; exact Nat.mod_eq_of_lt (by omega)
 show IntKind.u64.wrap ((BitVec.ofInt 64 ((n*256:Nat):Int) ||| BitVec.ofInt 64 ((c.toNat:Nat):Int)).toNat:Int)=_
 rw [BitVec.toNat_or,h1,h2]
 have h3:n*256 ||| c.toNat=n*256+c.toNat:=by
  have:=Nat.shiftLeft_add_eq_or_of_lt (b:=c.toNat) (i:=8) (by omega) n
  rw [Nat.shiftLeft_eq] at this
  exact this.symm
 rw [h3,IntKind.wrap_u64]
 omega
def bytesOf (n:Nat):Nat→List UInt8
 | 0 => []
 | s+1=>bytesOf (n/256) s ++ [UInt8.ofNat (n % 256)]
theorem length_bytesOf (s n:Nat):(bytesOf n s).length=s:=by
 induction s generalizing n with
 | zero=>rfl
 | succ s ih=>simp [bytesOf,ih]
theorem num_bytesOf (s n:Nat):num (bytesOf n s)=n % 256 ^ s:=by
 induction s generalizing n with
 | zero=>simp [bytesOf,num_nil,Nat.mod_one]
 | succ s ih =>
  rw [bytesOf,num_snoc,ih]
  have:(UInt8.ofNat (n % 256)).toNat=n % 256:=by simp
  rw [this,Nat.pow_succ,Nat.mul_comm (256 ^ s) 256,Nat.mod_mul]
  omega
theorem getElem_bytesOf (s n i:Nat) (h:i<s):(bytesOf n s)[i]'(by rw [length_bytesOf]; exact h)=UInt8.ofNat (n/256 ^ (s-1-i) % 256):=by
 induction s generalizing n i with
 | zero=>omega
 | succ s ih =>
  simp only [bytesOf]
  by_cases hi:i<s
  ·rw [List.getElem_append_left (by rw [length_bytesOf]; exact hi),ih _ _ hi,Nat.div_div_eq_div_mul]
   rw [show s+1-1-i=(s-1-i)+1 by omega,Nat.pow_succ,Nat.mul_comm 256]
  ·have:i=s:=by omega
   subst this
   rw [List.getElem_append_right (by rw [length_bytesOf]; omega)]
   simp
def step (s:Nat) (c:UInt8):Nat:=(31*s+c.toNat+7) % 4294967291
def sumFrom (s:Nat) (bs:List UInt8):Nat:=bs.foldl step s
def sum (bs:List UInt8):Nat:=sumFrom 1 bs
theorem step_lt (s:Nat) (c:UInt8):step s c<4294967291:=Nat.mod_lt _ (by decide)
theorem sumFrom_lt (s:Nat) (bs:List UInt8) (h:s<4294967291):sumFrom s bs<4294967291:=by
 induction bs generalizing s with
 | nil=>exact h
 | cons c bs ih=>exact ih _ (step_lt s c)
theorem sum_lt (bs:List UInt8):sum bs<4294967291:=sumFrom_lt _ _ (by decide)
theorem sum_snoc (bs:List UInt8) (c:UInt8):sum (bs ++ [c])=step (sum bs) c:=by simp [sum,sumFrom,List.foldl_append]
end Go.Proofs.YtogchamogbendaaGreat.Oct
namespace Go.Proofs.YtogchamogbendaaGreat.Oct
open Lib (hid)
open Go.RowKit
set_option maxHeartbeats 400000 in
theorem get_yes (b o cap:Nat) (bs:List UInt8) (p s:Nat) (w:World) (hl:bs.length≤maxLen) (hb:Has w b o bs) (h1:1≤s) (h8:s≤8) (hp:p+s≤bs.length) :
  Calls Tryz.prog 176 #[.slice (some ⟨b,o,none⟩) bs.length cap,.int .i64 p,.int .i64 s] w fun e w'=>e = .returned (.tuple #[.int .u64 (num ((bs.drop p).take s)),.bool true])∧w=w':=by
 unfold maxLen at hl
 have HB:=hid hb
 clear hb
 go_enter Tryz.func176,Tryz.ntmps176
 go_wp2_with (go_at_call 181; refine (within_yes _ _ _ _ _ _ (by unfold maxLen; omega) (by omega) (by omega) (by omega) (by omega)).mono ?_; rintro e w' ⟨rfl,rfl⟩)
 go_loop [8,16] (fun t i => ∃k:Nat,k≤s∧i = .int .i64 k∧t = .int .u64 (num ((bs.drop p).take k))) (fun _ i=>s-(intOf i).toNat)
 case atStart=>exact ⟨0,Nat.zero_le _,rfl,rfl⟩
 case round =>
  obtain ⟨k,hk,rfl,rfl⟩:=hrel
  by_cases hlt:k<s
  ·have hc:=HB.out (p+k) (by omega)
   have hn:=num_lt7 ((bs.drop p).take k) (by simp; omega)
   have hs:=hid (window_snoc bs p k (by omega))
   generalize bs[p+k]'(by omega)=c at hc hs
   have hc2:=u8_lt c
   have ho:=hid (or_step (num ((bs.drop p).take k)) c hn)
   go_wp2
   go_round
   case rel=>exact ⟨k+1,by omega,by go_num,by rw [hs.out,num_snoc,ho.out]⟩
   case measure=>simp [intOf]; omega
  ·go_wp2
   go_ret2
   have:k=s:=by omega
   subst this
   exact ⟨rfl,rfl⟩
theorem get_no (a:Option Addr) (len cap:Nat) (p s:Int) (w:World) (hl:len≤maxLen) (h : ¬(1≤s∧s≤8∧0≤p∧p≤len-s)) :
  Calls Tryz.prog 176 #[.slice a len cap,.int .i64 p,.int .i64 s] w fun e w'=>e = .returned (.tuple #[.int .u64 0,.bool false])∧w=w':=by
 have H:=hid h
 clear h
 go_enter Tryz.func176,Tryz.ntmps176
 go_wp2_with (go_at_call 181; refine (within_no _ _ _ _ _ _ hl H.out).mono ?_; rintro e w' ⟨rfl,rfl⟩)
 go_ret2
 exact ⟨rfl,rfl⟩
set_option maxHeartbeats 400000 in
theorem sum_any (b o cap:Nat) (bs:List UInt8) (w:World) (hl:bs.length≤maxLen) (hb:Has w b o bs) :
  Calls Tryz.prog 183 #[.slice (some ⟨b,o,none⟩) bs.length cap] w fun e w'=>e = .returned (.int .u32 (sum bs))∧w=w':=by
 unfold maxLen at hl
 have HB:=hid hb
 clear hb
 go_enter Tryz.func183,Tryz.ntmps183
 go_wp2
 go_loop [3,7] (fun t i => ∃k:Nat,k≤bs.length∧i = .int .i64 k∧t = .int .u64 (sum (bs.take k))) (fun _ i=>bs.length-(intOf i).toNat)
 case atStart=>exact ⟨0,Nat.zero_le _,rfl,rfl⟩
 case round =>
  obtain ⟨k,hk,rfl,rfl⟩:=hrel
  have hn:=sum_lt (bs.take k)
  by_cases hlt:k<bs.length
  ·have hc:=HB.out k hlt
   have hs:=hid (show bs.take (k+1)=bs.take k ++ [bs[k]] from by rw [List.take_succ_eq_append_getElem hlt])
   generalize bs[k]=c at hc hs
   have hc2:=u8_lt c
   go_wp2
   go_round
   case rel=>exact ⟨k+1,by omega,by go_num,by rw [hs.out,sum_snoc]; unfold step; go_num⟩
   case measure=>simp [intOf]; omega
  ·go_wp2
   go_ret
   have:k=bs.length:=by omega
   subst this
   exact ⟨ret_int (by rw [List.take_of_length_le (Nat.le_refl _)]),rfl⟩
end Go.Proofs.YtogchamogbendaaGreat.Oct
namespace Go.Proofs.YtogchamogbendaaGreat.Oct
open Go.RowKit
structure PutRel (w wr:World) (b o p s n k:Nat):Prop where
 wrote:Wrote w wr b (o+p) (o+p+s)
 low : ∀j,j<s-k→wr.cell? ⟨b,o+p+j,none⟩=w.cell? ⟨b,o+p+j,none⟩
 high : ∀j,s-k≤j→j<s→wr.cell? ⟨b,o+p+j,none⟩=some (.int .u8 ((n/256 ^ (s-1-j) % 256:Nat):Int))
theorem PutRel.start (w:World) (b o p s n:Nat):PutRel w w b o p s n 0:=⟨Wrote.refl _ _ _ _,fun _ _=>rfl,fun j _ _=>by omega⟩
theorem two_pow8 (k:Nat):(2:Nat) ^ (8*k)=256 ^ k:=by rw [Nat.pow_mul]
theorem shr8 (n k:Nat):((n:Int)/2 ^ (8*k) % 256)=((n/256 ^ k % 256:Nat):Int):=by
 rw [← two_pow8]
 simp
theorem PutRel.next {w wr:World} {b o p s n k:Nat} (h:PutRel w wr b o p s n k) (hk:k<s) {u:Value} (hu:wr.cell? ⟨b,o+(p+s-1-k),none⟩=some u) :
  PutRel w (wr.setCell ⟨b,o+(p+s-1-k),none⟩ (.int .u8 ((n:Int)/2 ^ (8*k) % 256))) b o p s n (k+1):=by
 rw [show o+(p+s-1-k)=o+p+(s-1-k) by omega] at hu ⊢
 refine ⟨h.wrote.set (by omega) (by omega) _,fun j hj => ?_,fun j h1 h2 => ?_⟩
 ·rw [set_other (by omega)]
  exact h.low j (by omega)
 ·by_cases hj:j=s-1-k
  ·subst hj
   rw [set_same hu,shr8]
   rw [show s-1-(s-1-k)=k by omega]
  ·rw [set_other (by omega)]
   exact h.high j (by omega) h2
theorem PutRel.done {w wr:World} {b o p s n:Nat} {bs:List UInt8} (h:PutRel w wr b o p s n s) (hb:Has w b o bs) (hp:p+s≤bs.length) :
  Has wr b o (bs.take p++bytesOf n s++bs.drop (p+s)):=by
 intro i hi
 have hlen:(bytesOf n s).length=s:=length_bytesOf s n
 simp only [List.length_append,List.length_take,List.length_drop,hlen] at hi
 by_cases h1:i<p
 ·rw [h.wrote.cell _ (by omega),hb i (by omega)]
  rw [List.getElem_append_left (by simp [hlen]; omega),List.getElem_append_left (by simp; omega),List.getElem_take]
 ·by_cases h2:i<p+s
  ·have:=h.high (i-p) (by omega) (by omega)
   rw [show o+p+(i-p)=o+i by omega] at this
   rw [this,List.getElem_append_left (by simp [hlen]; omega),List.getElem_append_right (by simp; omega)]
   simp only [List.length_take,show min p bs.length=p by omega]
   rw [getElem_bytesOf s n (i-p) (by omega)]
   simp
  ·rw [h.wrote.cell _ (by omega),hb i (by omega)]
   have hpl:(bs.take p).length=p:=by rw [List.length_take]; omega
   rw [List.getElem_append_right (by rw [List.length_append,hpl,hlen]; omega)]
   simp only [List.length_append,hpl,hlen,List.getElem_drop,show p+s+(i-(p+s))=i by omega]
structure Did (w w':World) (b o:Nat) (bs:List UInt8) (p s n:Nat):Prop where
 has:Has w' b o (bs.take p++bytesOf n s++bs.drop (p+s))
 wrote:Wrote w w' b (o+p) (o+p+s)
theorem fits_test (n s:Nat) (h:n<256 ^ s):((n:Int)/2 ^ (8*s) != 0)=false:=by
 have:n/2 ^ (8*s)=0:=Nat.div_eq_of_lt (by rw [two_pow8]; exact h)
 have e:((n:Int)/2 ^ (8*s))=((n/2 ^ (8*s):Nat):Int):=by simp
 rw [e,this]
 rfl
set_option maxHeartbeats 400000 in
theorem put_yes (b o cap:Nat) (bs:List UInt8) (p s n:Nat) (w:World) (hl:bs.length≤maxLen) (hb:Has w b o bs) (hf:Free w b o bs.length) (h1:1≤s) (h8:s≤8) (hp:p+s≤bs.length) (hn:n<256 ^ s) :
  Calls Tryz.prog 124 #[.slice (some ⟨b,o,none⟩) bs.length cap,.int .i64 p,.int .i64 s,.int .u64 n] w fun e w'=>e = .returned (.bool true)∧Did w w' b o bs p s n:=by
 unfold maxLen at hl
 have HB:=Lib.hid hb
 clear hb
 have HF:=Lib.hid hf
 clear hf
 have ht:=fits_test n s hn
 clear hn
 go_enter Tryz.func124,Tryz.ntmps124
 go_wp2_with (go_at_call 181; refine (within_yes _ _ _ _ _ _ (by unfold maxLen; omega) (by omega) (by omega) (by omega) (by omega)).mono ?_; rintro e w' ⟨rfl,rfl⟩)
 go_loopw [23] (fun i wr => ∃k:Nat,k≤s∧i = .int .i64 k∧PutRel w wr b o p s n k) (fun i _=>s-(intOf i).toNat)
 case atStart=>exact ⟨0,Nat.zero_le _,rfl,PutRel.start _ _ _ _ _ _⟩
 case round =>
  obtain ⟨k,hk,rfl,hrel⟩:=hrel
  have HR:=Lib.hid hrel
  clear hrel
  by_cases hlt:k<s
  ·have hcc:wr.cell? ⟨b,o+(p+s-1-k),none⟩=some (.int .u8 ((bs[p+s-1-k]'(by omega)).toNat:Int)):=by
    have h2:=HR.out.low (s-1-k) (by omega)
    rw [show o+p+(s-1-k)=o+(p+s-1-k) by omega] at h2
    exact h2.trans (HB.out (p+s-1-k) (by omega))
   have hff:wr.frozen? ⟨b,o+(p+s-1-k),none⟩=false:=(HR.out.wrote.frz _).trans (HF.out _ (by omega))
   generalize bs[p+s-1-k]'(by omega)=c at hcc
   go_wp2
   go_roundw
   case rel=>exact ⟨k+1,by omega,by go_num,HR.out.next hlt hcc⟩
   case measure=>simp [intOf]; omega
  ·go_wp2
   go_ret
   have:k=s:=by omega
   subst this
   exact ⟨rfl,HR.out.done HB.out hp,HR.out.wrote⟩
end Go.Proofs.YtogchamogbendaaGreat.Oct
namespace Go.Proofs.YtogchamogbendaaGreat.Oct
open Go.RowKit
end Go.Proofs.YtogchamogbendaaGreat.Oct
namespace Go.Proofs.YtogchamogbendaaGreat.Oct
open Go.RowKit
set_option maxHeartbeats 400000 in
theorem parts_any (b o cap:Nat) (w:World) (hc:128≤cap) (hm:cap≤maxLen) :
  Calls Tryz.prog 182 #[.slice (some ⟨b,o,none⟩) 128 cap] w fun e w'=>e = .returned (.tuple #[.slice (some ⟨b,o,none⟩) 1 1,.slice (some ⟨b,o+1,none⟩) 123 123,.slice (some ⟨b,o+124,none⟩) 4 4])∧Still w w':=by
 unfold maxLen at hm
 go_enter Tryz.func182,Tryz.ntmps182
 go_wp2
 go_quiet (fail)
 go_wp2
 go_ret3
 exact ⟨rfl,Still.drewN _ _⟩
theorem sum_len (b o len cap:Nat) (bs:List UInt8) (hlen:bs.length=len) (w:World) (hl:len≤maxLen) (hb:Has w b o bs) :
  Calls Tryz.prog 183 #[.slice (some ⟨b,o,none⟩) len cap] w fun e w'=>e = .returned (.int .u32 (sum bs))∧w=w':=by
 subst hlen
 exact sum_any b o cap bs w hl hb
theorem put_04 (b o cap:Nat) (bs:List UInt8) (hlen:bs.length=4) (n:Nat) (w:World) (hb:Has w b o bs) (hf:Free w b o 4) (hn:n<256 ^ 4) :
  Calls Tryz.prog 124 #[.slice (some ⟨b,o,none⟩) 4 cap,.int .i64 0,.int .i64 4,.int .u64 n] w fun e w'=>e = .returned (.bool true)∧Has w' b o (bytesOf n 4)∧Wrote w w' b o (o+4):=by
 have h:=put_yes b o cap bs 0 4 n w (by rw [hlen]; decide) hb (by rw [hlen]; exact hf) (by omega) (by omega) (by omega) hn
 rw [hlen] at h
 refine h.mono fun e w' ⟨he,hd⟩=>⟨he,?_,hd.wrote⟩
 have:=hd.has
 rwa [List.take_zero,List.nil_append,Nat.zero_add,List.drop_of_length_le (by omega),List.append_nil] at this
theorem get_04 (b o cap:Nat) (bs:List UInt8) (hlen:bs.length=4) (w:World) (hb:Has w b o bs) :
  Calls Tryz.prog 176 #[.slice (some ⟨b,o,none⟩) 4 cap,.int .i64 0,.int .i64 4] w fun e w'=>e = .returned (.tuple #[.int .u64 (num bs),.bool true])∧w=w':=by
 have h:=get_yes b o cap bs 0 4 w (by rw [hlen]; decide) hb (by omega) (by omega) (by omega)
 rw [hlen] at h
 rwa [List.drop_zero,List.take_of_length_le (by omega)] at h
def face (kind:UInt8) (bs:List UInt8):List UInt8:=kind :: (bs++List.replicate (123-bs.length) 0)
def page (kind:UInt8) (bs:List UInt8):List UInt8:=face kind bs++bytesOf (sum (face kind bs)) 4
theorem length_face (kind:UInt8) (bs:List UInt8) (h:bs.length≤123):(face kind bs).length=124:=by simp [face]; omega
theorem length_page (kind:UInt8) (bs:List UInt8) (h:bs.length≤123):(page kind bs).length=128:=by simp [page,length_face kind bs h,length_bytesOf]
def SealPost (w:World) (kind:UInt8) (bs:List UInt8) (e:Ending) (w':World):Prop :=
 ∃g,e = .returned (.tuple #[.slice (some ⟨g,0,none⟩) 128 128,.int .i64 0])∧Fresh w w' g (page kind bs) 128
theorem splice_page (kind:UInt8) (bs:List UInt8) (h:bs.length≤123):splice (kind :: List.replicate 127 0) 1 bs=face kind bs ++ [0,0,0,0]:=by
 unfold splice face
 rw [show 1+bs.length=bs.length+1 by omega,List.drop_succ_cons,List.take_succ_cons,List.take_zero,List.drop_replicate]
 rw [List.cons_append,List.cons_append,List.nil_append,List.append_assoc]
 congr 2
 rw [show ([0,0,0,0]:List UInt8)=List.replicate 4 0 from rfl,List.replicate_append_replicate]
 congr 1
 omega
end Go.Proofs.YtogchamogbendaaGreat.Oct
namespace Go.Proofs.YtogchamogbendaaGreat.Oct
open Go.RowKit
set_option maxHeartbeats 400000 in
theorem seal_any (kind:UInt8) (a:Option Addr) (len cap:Nat) (bs:List UInt8) (hlen:bs.length=len) (w:World) (hl:len≤123) (hb:Told w a bs) :
  Calls Tryz.prog 125 #[.int .u8 (kind.toNat:Int),.slice a len cap] w (SealPost w kind bs):=by
 have HL:=Lib.hid hlen
 clear hlen
 have HB:=Lib.hid hb
 clear hb
 have hmk:(Instr.makeSlice 45 (.int .i64 128) (.int .i64 128)).run Tryz.prog w = .ok (.slice (some ⟨w.heap.size,0,none⟩) 128 128) (w.alloc (.cells (vals (List.replicate 128 0)).toArray 5)):=run_make_bytes w 128 (by omega)
 have R1:=alloc_row w (List.replicate 128 0)
 have B1:=(Below.refl w.heap.size w).alloc (Nat.le_refl _) (.cells (vals (List.replicate 128 0)).toArray 5)
 have hs:(w.alloc (.cells (vals (List.replicate 128 0)).toArray 5)).heap.size=w.heap.size+1:=by simp
 generalize w.alloc (.cells (vals (List.replicate 128 0)).toArray 5)=w1 at hmk R1 B1 hs
 obtain ⟨g,hg⟩ : ∃g,g=w.heap.size:=⟨_,rfl⟩
 rw [← hg] at hmk R1
 have HG:=Lib.hid hg
 have HS:=Lib.hid hs
 clear hg hs
 go_enter Tryz.func125,Tryz.ntmps125
 go_wp2_with fail
 refine (parts_any g 0 128 _ (by omega) (by decide)).mono ?_
 rintro e w2 ⟨rfl,S2⟩
 have R2:=R1.still S2
 have B2:=B1.trans (S2.below _)
 have c0:w2.cell? ⟨g,0,none⟩=some (.int .u8 0):=R2.has 0 (by simp)
 have f0:w2.frozen? ⟨g,0,none⟩=false:=R2.free 0 1 0 (by omega)
 clear R1 B1 S2 hmk
 have R3:Row (w2.setCell ⟨g,0,none⟩ (.int .u8 (kind.toNat:Int))) g (kind :: List.replicate 127 0):=R2.set 0 kind
 have B3:=B2.setCell (p:=⟨g,0,none⟩) (by rw [HG.out]; exact Nat.le_refl _) (.int .u8 (kind.toNat:Int))
 have T3:Told (w2.setCell ⟨g,0,none⟩ (.int .u8 (kind.toNat:Int))) a bs:=by
  rcases HB.out with h | ⟨b,o,ha,h⟩
  ·exact .inl h
  ·refine .inr ⟨b,o,ha,fun i hi => ?_⟩
   have hlt:=World.block_lt_of_cell? w _ (h i hi)
   rw [B3.cell hlt]
   exact h i hi
 obtain ⟨w4,hcopy,R4,B4⟩:=run_copy_bytes _ 3 g 1 123 123 _ bs R3 a len cap HL.out T3 hl (by simp; omega)
 rw [splice_page kind bs (by rw [HL.out]; exact hl)] at R4
 replace B4:=B3.trans (B4.mono (by rw [HG.out]; exact Nat.le_refl _))
 clear R2 B2 R3 B3 T3
 have hf:=length_face kind bs (by rw [HL.out]; exact hl)
 have HF:=Lib.hid hf
 have H1:Has w4 g 0 (face kind bs):=by
  have:=R4.has.pre 124
  rwa [List.take_append_of_le_length (by omega),List.take_of_length_le (by omega)] at this
 have H2:Has w4 g 124 [0,0,0,0]:=by
  have:=R4.has.cut 124 4
  rwa [Nat.zero_add,List.drop_append_of_le_length (by omega),List.drop_of_length_le (by omega),List.nil_append,List.take_of_length_le (by simp)] at this
 clear hf
 have hsl:=sum_lt (face kind bs)
 go_wp2_with fail
 refine (sum_len g 0 124 128 (face kind bs) HF.out _ (by decide) H1).mono ?_
 rintro e w' ⟨rfl,rfl⟩
 go_wp2_with fail
 refine (put_04 g 124 4 [0,0,0,0] rfl (sum (face kind bs)) _ H2 (R4.free 124 4) (by omega)).mono ?_
 rintro e w5 ⟨rfl,H5,W5⟩
 go_wp2_with fail
 go_ret2
 refine ⟨g,rfl,B4.trans (W5.below (by rw [HG.out]; exact Nat.le_refl _)),?_,?_,?_,?_,?_,by decide,?_⟩
 ·rw [HG.out]; exact Nat.le_refl _
 ·rw [W5.size]; exact R4.lt
 ·exact (W5.has H1 (by rw [HF.out]; omega)).join (by rw [HF.out]; exact H5)
 ·exact fun i hi=>(W5.frz _).trans (R4.free 0 _ i hi)
 ·rw [length_page kind bs (by rw [HL.out]; exact hl)]; exact Nat.le_refl _
 ·obtain ⟨cs',e'⟩:=W5.typ _ _ R4
  exact ⟨cs',_,e'⟩
end Go.Proofs.YtogchamogbendaaGreat.Oct
namespace Go.Proofs.YtogchamogbendaaGreat.Oct
open Go.RowKit
theorem open_len (a:Option Addr) (len cap:Nat) (w:World) (h:len≠128) (hm:len≤maxLen) :
  Calls Tryz.prog 174 #[.slice a len cap] w fun e w'=>e = .returned (.tuple #[.int .u8 0,.slice none 0 0,.int .i64 10])∧w=w':=by
 unfold maxLen at hm
 have ht:(((len:Nat):Int) != 128)=true:=by rw [bne_iff_ne]; omega
 clear h
 go_enter Tryz.func174,Tryz.ntmps174
 go_wp2
 go_ret3
 exact ⟨rfl,rfl⟩
structure OpenIn (w:World) (b o:Nat) (ps:List UInt8):Prop where
 h1:Has w b o (ps.take 124)
 h2:Has w b (o+124) (ps.drop 124)
 hm:Has w b (o+1) ((ps.drop 1).take 123)
 l1:(ps.take 124).length=124
 l2:(ps.drop 124).length=4
 lm:((ps.drop 1).take 123).length=123
theorem open_in {w:World} {b o:Nat} {ps:List UInt8} (hb:Has w b o ps) (hlen:ps.length=128):OpenIn w b o ps:=by
 have h2:=hb.cut 124 4
 rw [List.take_of_length_le (by simp; omega)] at h2
 exact ⟨hb.pre 124,h2,hb.cut 1 123,by simp; omega,by simp; omega,by simp; omega⟩
set_option maxHeartbeats 400000 in
theorem open_bad (b o cap:Nat) (ps:List UInt8) (w:World) (hb:Has w b o ps) (hlen:ps.length=128) (hc:128≤cap) (hm:cap≤maxLen) (hs:num (ps.drop 124)≠sum (ps.take 124)) :
  Calls Tryz.prog 174 #[.slice (some ⟨b,o,none⟩) 128 cap] w fun e w'=>e = .returned (.tuple #[.int .u8 0,.slice none 0 0,.int .i64 10])∧Still w w':=by
 have I:=open_in hb hlen
 have hsl:=sum_lt (ps.take 124)
 have hnl:=num_lt8 (ps.drop 124) (by rw [I.l2]; omega)
 have ht:((num (ps.drop 124):Int) != (sum (ps.take 124):Int))=true:=by rw [bne_iff_ne]; omega
 clear hlen hb hs
 have hm':=hm
 unfold maxLen at hm'
 go_enter Tryz.func174,Tryz.ntmps174
 go_wp2_with fail
 refine (parts_any b o cap _ hc hm).mono ?_
 rintro e w2 ⟨rfl,S2⟩
 go_wp2_with fail
 refine (get_04 b (o+124) 4 _ I.l2 _ (I.h2.still S2)).mono ?_
 rintro e w' ⟨rfl,rfl⟩
 go_wp2_with fail
 refine (sum_len b o 124 cap _ I.l1 _ (by decide) (I.h1.still S2)).mono ?_
 rintro e w' ⟨rfl,rfl⟩
 go_wp2_with fail
 go_ret3
 exact ⟨rfl,S2⟩
def OpenPost (w:World) (kind:UInt8) (bs:List UInt8) (e:Ending) (w':World):Prop :=
 ∃g,e = .returned (.tuple #[.int .u8 (kind.toNat:Int),.slice (some ⟨g,0,none⟩) 123 123,.int .i64 0])∧Fresh w w' g bs 123
set_option maxHeartbeats 400000 in
theorem open_good (b o cap:Nat) (ps:List UInt8) (w:World) (hb:Has w b o ps) (hlen:ps.length=128) (hc:128≤cap) (hm:cap≤maxLen) (hs:num (ps.drop 124)=sum (ps.take 124)) :
  Calls Tryz.prog 174 #[.slice (some ⟨b,o,none⟩) 128 cap] w (OpenPost w (ps[0]'(by omega)) ((ps.drop 1).take 123)):=by
 have I:=open_in hb hlen
 have hsl:=sum_lt (ps.take 124)
 have hnl:=num_lt8 (ps.drop 124) (by rw [I.l2]; omega)
 have ht:((num (ps.drop 124):Int) != (sum (ps.take 124):Int))=false:=by rw [hs]; simp
 have c0:=hb 0 (by omega)
 rw [Nat.add_zero] at c0
 have hbw:=World.block_lt_of_cell? w _ c0
 have HC:=Lib.hid c0
 generalize ps[0]'(by omega)=kind at HC
 clear hlen hb hs c0
 have hm':=hm
 unfold maxLen at hm'
 go_enter Tryz.func174,Tryz.ntmps174
 go_wp2_with fail
 refine (parts_any b o cap _ hc hm).mono ?_
 rintro e w2 ⟨rfl,S2⟩
 go_wp2_with fail
 refine (get_04 b (o+124) 4 _ I.l2 _ (I.h2.still S2)).mono ?_
 rintro e w' ⟨rfl,rfl⟩
 go_wp2_with fail
 refine (sum_len b o 124 cap _ I.l1 _ (by decide) (I.h1.still S2)).mono ?_
 rintro e w' ⟨rfl,rfl⟩
 have hmk:(Instr.makeSlice 45 (.int .i64 123) (.int .i64 123)).run Tryz.prog w2 = .ok (.slice (some ⟨w2.heap.size,0,none⟩) 123 123) (w2.alloc (.cells (vals (List.replicate 123 0)).toArray 5)):=run_make_bytes w2 123 (by omega)
 have R3:=alloc_row w2 (List.replicate 123 0)
 have B3:=(S2.below w.heap.size).alloc (by rw [S2.heap]; exact Nat.le_refl _) (.cells (vals (List.replicate 123 0)).toArray 5)
 generalize w2.alloc (.cells (vals (List.replicate 123 0)).toArray 5)=w3 at hmk R3 B3
 obtain ⟨g,hg⟩ : ∃g,g=w2.heap.size:=⟨_,rfl⟩
 rw [← hg] at hmk R3
 rw [S2.heap] at hg
 have HG:=Lib.hid hg
 clear hg
 have T3:Told w3 (some ⟨b,o+1,none⟩) ((ps.drop 1).take 123) := .inr ⟨b,o+1,rfl,fun i hi=>(B3.cell hbw).trans (I.hm i hi)⟩
 have e3:w3.cell? ⟨b,o,none⟩=some (.int .u8 (kind.toNat:Int)):=(B3.cell hbw).trans HC.out
 obtain ⟨w4,hcopy,R4,B4⟩:=run_copy_bytes w3 3 g 0 123 123 _ ((ps.drop 1).take 123) R3 _ 123 123 I.lm T3 (by omega) (by simp)
 have e4:w4.cell? ⟨b,o,none⟩=some (.int .u8 (kind.toNat:Int)):=(B4.cell (by rw [HG.out]; exact hbw)).trans e3
 rw [splice_all _ _ (by rw [I.lm]; simp)] at R4
 replace B4:=B3.trans (B4.mono (by rw [HG.out]; exact Nat.le_refl _))
 clear R3 B3 T3 e3
 go_wp2_with fail
 go_ret3
 refine ⟨g,rfl,B4,?_,R4.lt,R4.has,R4.free 0 _,?_,by decide,_,_,R4⟩
 ·rw [HG.out]; exact Nat.le_refl _
 ·rw [I.lm]; exact Nat.le_refl _
end Go.Proofs.YtogchamogbendaaGreat.Oct
namespace Go.Proofs.YtogchamogbendaaGreat.Oct
open Go.RowKit
def Good (ps:List UInt8):Prop:=num (ps.drop 124)=sum (ps.take 124)
theorem page_take (k:UInt8) (bs:List UInt8) (h:bs.length≤123):(page k bs).take 124=face k bs:=by
 have hf:=length_face k bs h
 unfold page
 rw [List.take_append_of_le_length (by omega),List.take_of_length_le (by omega)]
theorem page_drop (k:UInt8) (bs:List UInt8) (h:bs.length≤123):(page k bs).drop 124=bytesOf (sum (face k bs)) 4:=by
 have hf:=length_face k bs h
 unfold page
 rw [List.drop_append_of_le_length (by omega),List.drop_of_length_le (by omega),List.nil_append]
theorem page_good (k:UInt8) (bs:List UInt8) (h:bs.length≤123):Good (page k bs):=by
 unfold Good
 rw [page_take k bs h,page_drop k bs h,num_bytesOf]
 have:=sum_lt (face k bs)
 exact Nat.mod_eq_of_lt (by omega)
theorem page_body (k:UInt8) (bs:List UInt8) (h:bs.length≤123):((page k bs).drop 1).take 123=bs++List.replicate (123-bs.length) 0:=by
 unfold page face
 rw [List.cons_append,List.drop_succ_cons,List.drop_zero,List.take_append_of_le_length (by simp; omega),List.take_of_length_le (by simp; omega)]
end Go.Proofs.YtogchamogbendaaGreat.Oct
