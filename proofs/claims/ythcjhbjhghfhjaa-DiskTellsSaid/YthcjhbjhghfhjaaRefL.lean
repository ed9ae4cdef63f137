/- Both disks at once, the program's and the reference's: what each operation makes of them. -/
import Derived.Test.YthcjhbjhghfhjaaRefK
import Derived.Test.YthcjhbjhghfhjaaRefI
import Derived.Test.YthcjhbjhghfhjaaDskZ
namespace Go.Proofs.Ythcjhbjhghfhjaa.Dsk
open Go.RowKit Go.Proofs.Ythcjhbjhghfhjaa.Oct
set_option linter.unusedVariables false

def dr (t : TypeId) : Bool := dT t || rT t
theorem Turned.wide {T U : TypeId → Bool} {base : Nat} {w w' : World} (h : Turned T base w w') (hT : ∀ t, T t = true → U t = true) : Turned U base w w' :=
  ⟨h.os, h.tape, h.output, h.size, fun k hk hc => h.block k hk (hc.imp id fun f cs t fr e => by
    cases ht : T t with
    | false => rfl
    | true => have := f cs t fr e; rw [hT t ht] at this; cases this)⟩
theorem Turned.d {base : Nat} {w w' : World} (h : Turned dT base w w') : Turned dr base w w' := h.wide fun t e => by unfold dr; rw [e]; rfl
theorem Turned.r {base : Nat} {w w' : World} (h : Turned rT base w w') : Turned dr base w w' := h.wide fun t e => by unfold dr; rw [e, Bool.or_true]
theorem RIs.other {w w' : World} {base base' rb : Nat} {r : Rf} (h : RIs w base rb r) (hb : Turned dT base' w w') : RIs w' base rb r := let ⟨cv, wv, k⟩ := h; ⟨cv, wv, k.other hb⟩
theorem RIs.below {w w' : World} {base rb : Nat} {r : Rf} (h : RIs w base rb r) (hb : Below w.heap.size w w') : RIs w' base rb r := let ⟨cv, wv, k⟩ := h; ⟨cv, wv, k.below hb⟩
theorem RIs.lo {w : World} {base rb : Nat} {r : Rf} (h : RIs w base rb r) : base ≤ rb ∧ rb < w.heap.size := let ⟨cv, wv, k⟩ := h; ⟨k.lo, k.lt⟩
theorem Is.otherR {w w' : World} {base base' a : Nat} {s : St} (h : Is w base a s) (hb : Turned rT base' w w') : Is w' base a s := h.other hb rT_dT

set_option maxRecDepth 100000 in
set_option maxHeartbeats 1600000 in
theorem rwrite_all {w : World} {base rb : Nat} {cv wv : Value} {r : Rf} (h : RAt w base rb cv wv r) (hfew : r.waits.length < 1000000) (p : Int) (bs : List UInt8) (hbs : bs.length ≤ 9223372036854775807) :
    Calls Try.prog 31 #[.pointer (some ⟨rb, 0, none⟩), .int .i64 p, txt bs] w (RDid w base rb (r.doWrite p bs)) := by
  have c0 := h.c0
  have c4 := h.c4
  have H := Lib.hid h
  clear h
  by_cases hd : r.down = true
  · have HD := Lib.hid (show r.doWrite p bs = (20, r) by simp [Rf.doWrite, hd])
    rw [hd] at c4
    clear hd
    go_enter Try.func31, Try.ntmps31
    go_wp2
    go_ret
    rw [HD.out]
    exact ⟨rfl, ⟨_, _, H.out⟩, Turned.refl _ _ _⟩
  · have hdf : r.down = false := by simpa using hd
    rw [hdf] at c4
    by_cases h0 : p < 0
    · have HD := Lib.hid (show r.doWrite p bs = (2, r) by unfold Rf.doWrite; rw [if_neg hd, if_pos (by omega)])
      clear hd hdf
      unfold txt
      go_enter Try.func31, Try.ntmps31
      go_wp2
      go_ret
      rw [HD.out]
      exact ⟨rfl, ⟨_, _, H.out⟩, Turned.refl _ _ _⟩
    · by_cases hn : r.N ≤ p
      · have HD := Lib.hid (show r.doWrite p bs = (2, r) by unfold Rf.doWrite; rw [if_neg hd, if_pos (by omega)])
        clear hd hdf
        unfold txt
        go_enter Try.func31, Try.ntmps31
        go_wp2
        go_ret
        rw [HD.out]
        exact ⟨rfl, ⟨_, _, H.out⟩, Turned.refl _ _ _⟩
      · obtain ⟨q, rfl⟩ := Int.eq_ofNat_of_zero_le (show 0 ≤ p by omega)
        by_cases hl : bs.length = 128
        · have hsz : ((ByteArray.mk bs.toArray).size : Int) = 128 := by rw [string_size, hl]; rfl
          by_cases hc : r.can = true
          · have HD := Lib.hid (show r.doWrite (q : Int) bs = (0, { r.spent with waits := r.waits ++ [(q, bs)] }) by unfold Rf.doWrite; rw [if_neg hd, if_neg (by omega), if_neg (by omega), if_neg (by rw [hc]; decide)]; simp)
            have HC := Lib.hid hc
            clear hd hdf hc
            unfold txt
            go_enter Try.func31, Try.ntmps31
            go_wp2_with fail
            refine (rthrough_at H.out).mono ?_
            rintro e w2 ⟨rfl, R2, T2⟩
            rw [HC.out]
            have hsp := spent_frame r
            obtain ⟨v1, w3, v2, w4, run1, run2, o4, b4⟩ := push_runs w2 R2.waits (wz_one _) R2.few.2 (by have := R2.lo; have := R2.lt; omega) (q : Int) bs 28 28
            rw [← wz_snoc, hsp.2.1, show r.waits.length + 1 = (r.waits ++ [(q, bs)]).length by simp] at o4
            obtain ⟨A2, cap2, hv2, _, _, _⟩ := own_form o4
            rw [show (r.waits ++ [(q, bs)]).length = r.waits.length + 1 by simp] at hv2
            subst hv2
            have R4 := R2.below b4
            have R5 := RAt.waits' (n := 0) R4 _ o4 (by simp; omega)
            have c2 : (w2.alloc (.cells #[] 99)).cell? ⟨rb, 2, none⟩ = some wv := still_there R2.c2
            have d2 := R4.c2
            have f2 := R4.f 2
            have HR5 := Lib.hid R5
            have HT5 := Lib.hid ((T2.trans (Turned.of_below b4)).setCell (p := ⟨rb, 2, none⟩) R4.lo R4.head rfl (.slice A2 (r.waits.length + 1) cap2))
            clear R2 T2 R4 R5 b4 o4 c0 c4 hsp
            unfold txt at run2
            go_wp2_with (first | (at_builtin; refine wpList_append_run rfl (.tmp 30) (.tmp 34) 28 rfl _ _ rfl rfl _ w3 run1 ?_) | (at_builtin; refine wpList_append_run rfl (.tmp 35) (.tmp 39) 28 rfl _ _ rfl rfl _ w4 run2 ?_))
            go_ret
            rw [HD.out]
            exact ⟨rfl, ⟨_, _, HR5.out⟩, HT5.out⟩
          · have hcf : r.can = false := by simpa using hc
            have HD := Lib.hid (show r.doWrite (q : Int) bs = (20, r.spent) by unfold Rf.doWrite; rw [if_neg hd, if_neg (by omega), if_neg (by omega), if_pos hcf])
            have HC := Lib.hid hcf
            clear hd hdf hc hcf
            unfold txt
            go_enter Try.func31, Try.ntmps31
            go_wp2_with fail
            refine (rthrough_at H.out).mono ?_
            rintro e w2 ⟨rfl, R2, T2⟩
            rw [HC.out]
            have HR2 := Lib.hid R2
            have HT2 := Lib.hid T2
            clear R2 T2 c0 c4
            go_wp2_with fail
            go_ret
            rw [HD.out]
            exact ⟨rfl, ⟨_, _, HR2.out⟩, HT2.out⟩
        · have HD := Lib.hid (show r.doWrite (q : Int) bs = (2, r) by unfold Rf.doWrite; rw [if_neg hd, if_neg (by omega), if_pos hl])
          have hsz : ((ByteArray.mk bs.toArray).size : Int) ≠ 128 := by rw [string_size]; omega
          clear hd hdf
          unfold txt
          go_enter Try.func31, Try.ntmps31
          go_wp2
          go_ret
          rw [HD.out]
          exact ⟨rfl, ⟨_, _, H.out⟩, Turned.refl _ _ _⟩

/-! ### What is called, with its answer named -/
section
variable {w : World} {base a rb : Nat} {s s' : St} {r r' : Rf} {en : Int}
theorem dwrite (h : Is w base a s) (hfew : s.W.length < 1000000) (p : Int) (ba : Option Addr) (len cap : Nat) (bs : List UInt8) (hl : bs.length = len) (hb : ∀ w', Turned dT base w w' → Oct.Told w' ba bs) (e : s.doWrite p bs = (en, s')) :
    Calls Try.prog 25 #[.pointer (some ⟨a, 0, none⟩), .int .i64 p, .slice ba len cap] w fun e w' => e = .returned (.int .i64 en) ∧ Is w' base a s' ∧ Turned dT base w w' := by
  have := write_is h hfew p ba len cap bs hl hb
  rw [e] at this
  exact this
theorem dflush (h : Is w base a s) (e : s.doFlush = (en, s')) :
    Calls Try.prog 27 #[.pointer (some ⟨a, 0, none⟩)] w fun e w' => e = .returned (.int .i64 en) ∧ Is w' base a s' ∧ Turned dT base w w' := by
  have := flush_is h
  rw [e] at this
  exact this
theorem darm (h : Is w base a s) (n : Int) (h1 : n ≤ 9223372036854775807) (e : s.doArm n = (en, s')) :
    Calls Try.prog 24 #[.pointer (some ⟨a, 0, none⟩), .int .i64 n] w fun e w' => e = .returned (.int .i64 en) ∧ Is w' base a s' ∧ Turned dT base w w' := by
  have := arm_is h n h1
  rw [e] at this
  exact this
theorem dcrash (h : Is w base a s) (KA : Option Addr) (len kc : Nat) (ks : List Bool) (hlen : ks.length = len) (torn cut : Int) (hm : len ≤ maxLen) (hk : Flags w KA ks) (hka : ks = [] ∨ Aside w base KA) (e : s.doCrash ks torn cut = (en, s')) :
    Calls Try.prog 18 #[.pointer (some ⟨a, 0, none⟩), .agg #[.slice KA len kc, .int .i64 torn, .int .i64 cut]] w fun e w' => e = .returned (.int .i64 en) ∧ Is w' base a s' ∧ Turned dT base w w' := by
  unfold St.doCrash at e
  by_cases hc : 0 ≤ cut ∧ cut ≤ 128
  · rw [if_neg (fun q => q hc)] at e
    obtain ⟨rfl, rfl⟩ := Prod.mk.inj e
    obtain ⟨n, rfl⟩ := Int.eq_ofNat_of_zero_le hc.1
    exact crash_yes h KA len kc ks hlen torn n (by omega) hm hk hka
  · rw [if_pos hc] at e
    obtain ⟨rfl, rfl⟩ := Prod.mk.inj e
    obtain ⟨bb, bc, wv, h⟩ := h
    exact (crash_bad h KA len kc torn cut hc).mono fun e w' ⟨h1, h2⟩ => ⟨h1, ⟨bb, bc, wv, h.below h2⟩, Turned.of_below h2⟩
theorem rwrite (h : RIs w base rb r) (hfew : r.waits.length < 1000000) (p : Int) (bs : List UInt8) (hbs : bs.length ≤ 9223372036854775807) (e : r.doWrite p bs = (en, r')) :
    Calls Try.prog 31 #[.pointer (some ⟨rb, 0, none⟩), .int .i64 p, .string ⟨bs.toArray⟩] w fun e w' => e = .returned (.int .i64 en) ∧ RIs w' base rb r' ∧ Turned rT base w w' := by
  obtain ⟨cv, wv, h⟩ := h
  have := rwrite_all h hfew p bs hbs
  rw [e] at this
  exact this
theorem rflush (h : RIs w base rb r) (hfew : r.came.length + r.waits.length ≤ 1000000) (e : r.doFlush = (en, r')) :
    Calls Try.prog 32 #[.pointer (some ⟨rb, 0, none⟩)] w fun e w' => e = .returned (.int .i64 en) ∧ RIs w' base rb r' ∧ Turned rT base w w' := by
  obtain ⟨cv, wv, h⟩ := h
  have := rflush_at h hfew
  rw [e] at this
  exact this
theorem rarm (h : RIs w base rb r) (n : Int) (hn : n ≤ 9223372036854775807) (e : r.doArm n = (en, r')) :
    Calls Try.prog 33 #[.pointer (some ⟨rb, 0, none⟩), .int .i64 n] w fun e w' => e = .returned (.int .i64 en) ∧ RIs w' base rb r' ∧ Turned rT base w w' := by
  obtain ⟨cv, wv, h⟩ := h
  refine (rarm_at h n hn).mono fun e w' ⟨h1, h2, h3⟩ => ?_
  rw [‹r.doArm n = _›] at h1 h2
  exact ⟨h1, ⟨cv, wv, h2⟩, h3⟩
end
set_option maxRecDepth 100000 in
theorem rcrash_bad {w : World} {base rb : Nat} {r : Rf} (h : RIs w base rb r) (v : Value) (torn cut : Int) (hc : ¬ (0 ≤ cut ∧ cut ≤ 128)) :
    Calls Try.prog 34 #[.pointer (some ⟨rb, 0, none⟩), .agg #[v, .int .i64 torn, .int .i64 cut]] w fun e w' => e = .returned (.int .i64 2) ∧ RIs w' base rb r ∧ Turned rT base w w' := by
  have b1 := (Below.refl w.heap.size w).alloc (Nat.le_refl _) (.cells #[v, .int .i64 torn, .int .i64 cut] 37)
  have HR := Lib.hid (h.below b1)
  have HT := Lib.hid (Turned.of_below (T := rT) (base := base) b1)
  by_cases h0 : cut < 0
  · clear h b1 hc
    go_enter Try.func34, Try.ntmps34
    go_wp2_with fail
    go_ret
    exact ⟨rfl, HR.out, HT.out⟩
  · have h1 : (128 : Int) < cut := by omega
    clear h b1 hc
    go_enter Try.func34, Try.ntmps34
    go_wp2_with fail
    go_ret
    exact ⟨rfl, HR.out, HT.out⟩
theorem rcrash {w : World} {base rb : Nat} {r r' : Rf} {en : Int} (h : RIs w base rb r) (hW : r.Whole) (hfew : r.came.length + r.waits.length ≤ 1000000) (KA : Option Addr) (len kc : Nat) (ks : List Bool) (hlen : ks.length = len) (torn cut : Int) (hm : len ≤ maxLen) (hk : Flags w KA ks) (hka : ks = [] ∨ ∀ x, KA = some x → x.block < base) (e : r.doCrash ks torn cut = (en, r')) :
    Calls Try.prog 34 #[.pointer (some ⟨rb, 0, none⟩), .agg #[.slice KA len kc, .int .i64 torn, .int .i64 cut]] w fun e w' => e = .returned (.int .i64 en) ∧ RIs w' base rb r' ∧ Turned rT base w w' := by
  unfold Rf.doCrash at e
  by_cases hc : 0 ≤ cut ∧ cut ≤ 128
  · rw [if_neg (fun q => q hc)] at e
    obtain ⟨rfl, rfl⟩ := Prod.mk.inj e
    obtain ⟨n, rfl⟩ := Int.eq_ofNat_of_zero_le hc.1
    obtain ⟨cv, wv, h⟩ := h
    exact rcrash_ok h hW hfew KA len kc ks hlen torn n (by omega) hm hk hka
  · rw [if_pos hc] at e
    obtain ⟨rfl, rfl⟩ := Prod.mk.inj e
    exact rcrash_bad h _ torn cut hc

/-! ### What stays right -/
def Rf.many (r : Rf) : Nat := r.came.length + r.waits.length
theorem rf_write {r : Rf} (hW : r.Whole) (p : Int) (bs : List UInt8) {k : Nat} (hk : r.many ≤ k) : (r.doWrite p bs).2.Whole ∧ (r.doWrite p bs).2.many ≤ k + 1 := by
  have hs := spent_frame r
  have sw : r.spent.Whole := ⟨by rw [hs.1]; exact hW.1, by rw [hs.2.1]; exact hW.2⟩
  have sm : r.spent.many ≤ k := by unfold Rf.many; rw [hs.1, hs.2.1]; exact hk
  unfold Rf.doWrite
  split
  · exact ⟨hW, Nat.le_succ_of_le hk⟩
  · split
    · exact ⟨hW, Nat.le_succ_of_le hk⟩
    · split
      · exact ⟨hW, Nat.le_succ_of_le hk⟩
      · rename_i h3
        split
        · exact ⟨sw, Nat.le_succ_of_le sm⟩
        · refine ⟨⟨sw.1, fun x hx => ?_⟩, ?_⟩
          · rcases List.mem_append.1 hx with hx | hx
            · exact hW.2 x hx
            · obtain rfl : x = _ := by simpa using hx
              exact Decidable.of_not_not h3
          · have : r.spent.came.length = r.came.length := by rw [hs.1]
            unfold Rf.many at hk ⊢
            simp only [List.length_append, List.length_singleton]
            omega
theorem rf_flush {r : Rf} (hW : r.Whole) {k : Nat} (hk : r.many ≤ k) : r.doFlush.2.Whole ∧ r.doFlush.2.many ≤ k := by
  have hs := spent_frame r
  unfold Rf.doFlush
  split
  · exact ⟨hW, hk⟩
  · split
    · exact ⟨⟨by rw [hs.1]; exact hW.1, by rw [hs.2.1]; exact hW.2⟩, by unfold Rf.many; rw [hs.1, hs.2.1]; exact hk⟩
    · refine ⟨⟨fun x hx => ?_, fun x hx => by cases hx⟩, ?_⟩
      · rcases List.mem_append.1 hx with hx | hx
        · exact hW.1 x hx
        · exact hW.2 x hx
      · unfold Rf.many at hk ⊢
        simp only [List.length_append, List.length_nil]
        omega
theorem rf_arm {r : Rf} (hW : r.Whole) (n : Int) {k : Nat} (hk : r.many ≤ k) : (r.doArm n).2.Whole ∧ (r.doArm n).2.many ≤ k := by
  unfold Rf.doArm
  split
  · exact ⟨hW, hk⟩
  · split
    · exact ⟨hW, hk⟩
    · exact ⟨hW, hk⟩
theorem thr_le {ks : List Bool} {torn cut : Int} (h : 0 ≤ cut ∧ cut ≤ 128) (i : Nat) : thr ks torn cut.toNat i ≤ 128 := by
  unfold thr
  split
  · omega
  · split <;> omega
theorem rf_crash {r : Rf} (hW : r.Whole) (ks : List Bool) (torn cut : Int) {k : Nat} (hk : r.many ≤ k) : (r.doCrash ks torn cut).2.Whole ∧ (r.doCrash ks torn cut).2.many ≤ k := by
  unfold Rf.doCrash
  split
  · exact ⟨hW, hk⟩
  · rename_i h
    have h' : 0 ≤ cut ∧ cut ≤ 128 := Decidable.of_not_not h
    refine ⟨⟨rlaid_whole r hW _ (fun i => thr_le h' i) _, fun x hx => by cases hx⟩, ?_⟩
    have hc := rlaid_count r (thr ks torn cut.toNat) r.waits.length (Nat.le_refl _)
    unfold Rf.many at hk ⊢
    unfold Rf.crashed
    simp only [List.length_nil]
    omega
/-- Both, and what is known of them behind k operations. -/
structure Both (w : World) (base a rb : Nat) (s : St) (r : Rf) (k : Nat) : Prop where
  is : Is w base a s
  ris : RIs w base rb r
  tie : Tie s r
  whole : r.Whole
  few : r.many ≤ k
theorem Both.below {w w' : World} {base a rb : Nat} {s : St} {r : Rf} {k : Nat} (h : Both w base a rb s r k) (b : Below w.heap.size w w') : Both w' base a rb s r k := ⟨h.is.below b, h.ris.below b, h.tie, h.whole, h.few⟩
theorem Both.waits {w : World} {base a rb : Nat} {s : St} {r : Rf} {k : Nat} (h : Both w base a rb s r k) : s.W.length ≤ k ∧ r.waits.length ≤ k := by
  have := h.few
  unfold Rf.many at this
  rw [h.tie.waits]
  exact ⟨by omega, by omega⟩
/-- An operation of both: what each answers, and what becomes of it. -/
structure Goes (s s' : St) (r r' : Rf) (en : Int) (d : Int × St) (f : Int × Rf) (k : Nat) : Prop where
  d : d = (en, s')
  f : f = (en, r')
  tie : Tie s' r'
  whole : r'.Whole
  few : r'.many ≤ k
section
variable {w : World} {base a rb : Nat} {s : St} {r : Rf} {k : Nat}
theorem goes_of {d : Int × St} {f : Int × Rf} (h : d.1 = f.1 ∧ Tie d.2 f.2) (hw : f.2.Whole ∧ f.2.many ≤ k) : ∃ en s' r', Goes s s' r r' en d f k :=
  ⟨f.1, d.2, f.2, by rw [← h.1], rfl, h.2, hw.1, hw.2⟩
theorem Both.write (h : Both w base a rb s r k) (p : Int) (bs : List UInt8) : ∃ en s' r', Goes s s' r r' en (s.doWrite p bs) (r.doWrite p bs) (k + 1) := goes_of (h.tie.write p bs) (rf_write h.whole p bs h.few)
theorem Both.flush (h : Both w base a rb s r k) : ∃ en s' r', Goes s s' r r' en s.doFlush r.doFlush (k + 1) := goes_of (h.tie.flush h.is.ok.len h.is.ok.wait) ((rf_flush h.whole h.few).imp id fun q => Nat.le_succ_of_le q)
theorem Both.arm (h : Both w base a rb s r k) (n : Int) : ∃ en s' r', Goes s s' r r' en (s.doArm n) (r.doArm n) (k + 1) := goes_of (h.tie.armed n) ((rf_arm h.whole n h.few).imp id fun q => Nat.le_succ_of_le q)
theorem Both.crash (h : Both w base a rb s r k) (ks : List Bool) (torn cut : Int) : ∃ en s' r', Goes s s' r r' en (s.doCrash ks torn cut) (r.doCrash ks torn cut) (k + 1) :=
  goes_of (h.tie.crash h.is.ok.len h.is.ok.wait ks torn cut (fun hc i => by unfold thr; split; (omega); split <;> omega)) ((rf_crash h.whole ks torn cut h.few).imp id fun q => Nat.le_succ_of_le q)
end
end Go.Proofs.Ythcjhbjhghfhjaa.Dsk
