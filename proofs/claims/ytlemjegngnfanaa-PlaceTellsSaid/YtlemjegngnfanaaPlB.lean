/- May a page stand there? Which pages have one of these members? -/
import Derived.Test.YtlemjegngnfanaaPlA
namespace Go.Proofs.Ytlemjegngnfanaa.Pl
open Go.RowKit Go.Proofs.Ytlemjegngnfanaa.Oct Go.Proofs.Ytlemjegngnfanaa.Mv Go.Proofs.Ytlemjegngnfanaa.Tl Go.Proofs.Ytlemjegngnfanaa.Pk Go.Maps
set_option linter.unusedVariables false

/-- A block's count, of whatever number. -/
def getZ (s : St) (b : Int) : Int := if 0 ≤ b ∧ b < (s.n : Int) then ((s.cnt b.toNat).toNat : Int) else 0
theorem getZ_nat (s : St) {i : Nat} (h : i < s.n) : getZ s (i : Int) = ((s.cnt i).toNat : Int) := by
  unfold getZ
  rw [if_pos ⟨by omega, by omega⟩, Int.toNat_natCast]
theorem get_any {w : World} {a cb mb c : Nat} {s : St} (h : At w a cb mb c s) (b : Int) :
    Calls Try.prog 26 #[.pointer (some ⟨a, 0, none⟩), .int .i64 b] w fun e w' => e = .returned (.int .i64 (getZ s b)) ∧ w = w' := by
  by_cases hb : 0 ≤ b ∧ b < (s.n : Int)
  · obtain ⟨i, rfl⟩ : ∃ i : Nat, b = (i : Int) := ⟨b.toNat, by omega⟩
    have hi : i < s.n := by omega
    rw [getZ_nat s hi]
    exact get_yes h i hi
  · unfold getZ
    rw [if_neg hb]
    exact get_no h b (by omega)
set_option maxRecDepth 100000 in
theorem may_any {w : World} {a cb mb c : Nat} {s : St} (h : At w a cb mb c s) {sb n : Nat} {S : Int → Prop} (hs : SetAt w sb n S) (hn : n < 8192) (ha : a < sb) (hc : cb < sb) (hm : mb < sb) (b : Int) (h1 : -9223372036854775808 ≤ b) (h2 : b ≤ 9223372036854775807) :
    Calls Try.prog 55 #[.pointer (some ⟨a, 0, none⟩), .map (some sb), .int .i64 b] w fun e w' => ∃ r : Bool, e = .returned (.bool r) ∧ (r = true ↔ (b = 0 ∨ (¬ S b ∧ getZ s b ≠ 0))) ∧ (r = true → SetAt w' sb (n + 1) (fun z => S z ∨ (z = b ∧ b ≠ 0))) ∧ ButL w w' [sb] := by
  by_cases h0 : b = 0
  · subst h0
    go_enter Try.func55, Try.ntmps55
    go_wp2_with fail
    go_ret
    exact ⟨true, rfl, by simp, fun _ => (hs.iff fun z => by simp).mono (by omega), ButL.refl _ _⟩
  · obtain ⟨D, hown, hD⟩ := hs
    have hkey := key_any b h1 h2
    have H := Lib.hid h
    have HD := Lib.hid hD
    clear h hD
    cases hh : Maps.has D (.int .i64 b)
    · have HS := Lib.hid (show ¬ S b from fun e => by rw [(HD.out b).2 e] at hh; cases hh)
      go_enter Try.func55, Try.ntmps55
      go_wp2_with (first
        | (at_lookup; refine wpList_lookup_own_unit _ rfl _ _ 102 rfl 3 118 law Try.underlying102 (zero_unit _) sb n D rfl hown _ _ rfl hkey ?_; rw [hh])
        | (at_mapUpdate; refine wpList_mapUpdate_own _ rfl _ _ _ 102 rfl 3 118 law Try.underlying102 (unitElem (H := Unit)) sb n _ rfl (hown.alloc _) (by unfold maxLen; omega) _ _ _ rfl rfl hkey _ [] unitElem_mk ?_; intro w1 hown1 hgrow1)
        | fail)
      have B := (ButL.of_below [sb] ((Below.refl w.heap.size w).alloc (Nat.le_refl _) (.cells #[] 118)) (Nat.le_refl _)).trans (ButL.grown hgrow1)
      have HB := Lib.hid B
      have A1 := Lib.hid (H.out.blocks (B.block a H.out.row.lt (by simp; omega)) (B.block cb H.out.cb_lt (by simp; omega)) (B.block mb H.out.mp.lt (by simp; omega)))
      have HO := Lib.hid hown1
      clear B hgrow1 hown1
      refine (get_any A1.out b).mono ?_
      rintro e w' ⟨rfl, rfl⟩
      go_wp2_with fail
      go_ret
      refine ⟨_, rfl, ?_, fun _ => ⟨_, HO.out, fun z => by rw [put_has hown.isMap HD.out]; simp [h0]⟩, HB.out⟩
      simp [h0, HS.out]
    · have HS := Lib.hid ((HD.out b).1 hh)
      go_enter Try.func55, Try.ntmps55
      go_wp2_with (first
        | (at_lookup; refine wpList_lookup_own_unit _ rfl _ _ 102 rfl 3 118 law Try.underlying102 (zero_unit _) sb n D rfl hown _ _ rfl hkey ?_; rw [hh])
        | (at_mapUpdate; refine wpList_mapUpdate_own _ rfl _ _ _ 102 rfl 3 118 law Try.underlying102 (unitElem (H := Unit)) sb n _ rfl (hown.alloc _) (by unfold maxLen; omega) _ _ _ rfl rfl hkey _ [] unitElem_mk ?_; intro w1 hown1 hgrow1)
        | fail)
      go_ret
      have B := (ButL.of_below [sb] ((Below.refl w.heap.size w).alloc (Nat.le_refl _) (.cells #[] 118)) (Nat.le_refl _)).trans (ButL.grown hgrow1)
      refine ⟨false, rfl, by simp [h0, HS.out], fun e => absurd e (by decide), B⟩

/-- Numbers that have these pages. -/
def onP (l : List Nat) (z : Int) : Prop := ∃ m ∈ l, ((m / 61 : Nat) : Int) = z
/-- What 'has' answers: a func that tells whether a page is on the set. -/
structure Tells (w : World) (v : Value) (B : Nat) (S : Int → Prop) : Prop where
  out : ∃ x sb n, v = .func (.func 68) #[] #[.pointer (some ⟨x, 0, none⟩)] ∧ B ≤ x ∧ B ≤ sb ∧ x < w.heap.size ∧ w.cell? ⟨x, 0, none⟩ = some (.map (some sb)) ∧ SetAt w sb n S
theorem Tells.below {w w' : World} {v : Value} {B : Nat} {S : Int → Prop} (h : Tells w v B S) (k : Below w.heap.size w w') : Tells w' v B S := by
  obtain ⟨x, sb, n, h1, h2, h3, h4, h5, h6⟩ := h.out
  exact ⟨x, sb, n, h1, h2, h3, Nat.lt_of_lt_of_le h4 k.size, (k.cell h4).trans h5, h6.below k h6.lt⟩
theorem Tells.lo {w : World} {v : Value} {B C : Nat} {S : Int → Prop} (h : Tells w v B S) (k : C ≤ B) : Tells w v C S := by
  obtain ⟨x, sb, n, h1, h2, h3, h4, h5, h6⟩ := h.out
  exact ⟨x, sb, n, h1, by omega, by omega, h4, h5, h6⟩
set_option maxRecDepth 100000 in
set_option maxHeartbeats 1000000 in
theorem has_any {w : World} {v : Value} {l : List Nat} (h : List64 w v l) (hl : l.length ≤ 4096) (hm : ∀ m ∈ l, m ≤ 4096) :
    Calls Try.prog 57 #[v] w fun e w' => ∃ u, e = .returned u ∧ Tells w' u w.heap.size (onP l) ∧ Below w.heap.size w w' := by
  obtain ⟨A, cap, rfl, ht⟩ := h
  have HT := Lib.hid ht
  have hmm := @run_makeMap Try.prog
  have S0 := SetAt.made w
  have hz : (w.alloc (.map #[] 0)).heap.size = w.heap.size + 1 := by simp
  have B1 := (Below.refl w.heap.size w).alloc (Nat.le_refl _) (.map #[] 0)
  have B2 := (Below.refl (w.alloc (.map #[] 0)).heap.size (w.alloc (.map #[] 0))).alloc (Nat.le_refl _) (.cells #[.map (some w.heap.size)] 102)
  have R2 := alloc_rowV (w.alloc (.map #[] 0)) 102 [.map (some w.heap.size)]
  rw [hz] at R2 B2
  have HS := Lib.hid (S0.below B2 (by omega))
  have HR := Lib.hid R2
  have HB := Lib.hid (B1.trans (B2.mono (by omega)))
  have HM := Lib.hid hm
  clear ht S0 B1 B2 R2 hm
  go_enter Try.func57, Try.ntmps57
  go_wp2_with fail
  have hl1 : ∀ k, k ≤ l.length → k < 8192 := fun k hk => by omega
  generalize (w.alloc (.map #[] 0)).alloc (.cells #[.map (some w.heap.size)] 102) = w1 at *
  go_loopw [11] (fun i wr => ∃ k : Nat, k ≤ l.length ∧ i = .int .i64 (k : Int) ∧ Hid (SetAt wr w.heap.size k (onP (l.take k))) ∧ Hid (RowV wr (w.heap.size + 1) 102 [.map (some w.heap.size)]) ∧ Hid (Below w.heap.size w wr) ∧ w.heap.size + 2 ≤ wr.heap.size) (fun i _ => l.length - (Go.RowKit.intOf i).toNat)
  case atStart => exact ⟨0, Nat.zero_le _, rfl, Lib.hid (HS.out.iff fun z => by simp [onP]), HR, HB, by have := HR.out.lt; omega⟩
  case round =>
    obtain ⟨k, hk, rfl, HS2, HR2, HB2, hsz⟩ := hrel
    by_cases hlt : k < l.length
    · have hki : (k : Int) < (l.length : Int) := by omega
      have HN := Lib.hid (HM.out (l[k]) (List.getElem_mem hlt))
      have hrun : ∃ b o, A = some ⟨b, o, none⟩ ∧ wr.cell? ⟨b, o + k, none⟩ = some (.int .i64 ((l[k] : Nat) : Int)) := by
        obtain ⟨b, o, h1, h2⟩ := HT.out.has (by rw [length_ints]; omega)
        refine ⟨b, o, h1, ?_⟩
        have hb := h2.lt (by rw [length_ints]; omega)
        exact (HB2.out.cell (p := ⟨b, o + k, none⟩) hb).trans (h2.cellAt (Tl.ints_at l k hlt))
      obtain ⟨b, o, rfl, hc⟩ := hrun
      obtain ⟨m, hmk⟩ : ∃ m, m = l[k] := ⟨_, rfl⟩
      rw [← hmk] at hc HN
      have HK := Lib.hid hmk
      clear hmk
      have hm9 : m ≤ 9223372036854775807 := by have := HN.out; omega
      go_wp2_with fail
      refine (place_pos m hm9 _).mono ?_
      rintro e w' ⟨rfl, rfl⟩
      have c0 := HR2.out.cellAt (i := 0) rfl
      have hkey := key_any ((m / 61 : Nat) : Int) (by omega) (by have := HN.out; omega)
      obtain ⟨D, hown, hD⟩ := HS2.out
      have HD := Lib.hid hD
      clear hD
      have hk8 := hl1 k hk
      go_wp2_with (first
        | (at_mapUpdate; refine wpList_mapUpdate_own _ rfl _ _ _ 102 rfl 3 118 law Try.underlying102 (unitElem (H := Unit)) w.heap.size k _ rfl hown (by unfold maxLen; omega) _ _ _ rfl rfl hkey _ [] unitElem_mk ?_; intro w2 hown1 hgrow1)
        | fail)
      have B2 := ButL.grown hgrow1
      have HS3 : SetAt w2 w.heap.size (k + 1) (onP (l.take (k + 1))) := ⟨_, hown1, fun z => by
        rw [put_has hown.isMap HD.out]
        unfold onP
        rw [List.take_add_one, List.getElem?_eq_getElem hlt, ← HK.out]
        simp only [List.mem_append, Option.toList_some, List.mem_singleton]
        constructor
        · rintro (⟨y, hy, e⟩ | e)
          · exact ⟨y, .inl hy, e⟩
          · exact ⟨m, .inr rfl, e.symm⟩
        · rintro ⟨y, hy | rfl, e⟩
          · exact .inl ⟨y, hy, e⟩
          · exact .inr e.symm⟩
      go_roundw
      case rel => exact ⟨k + 1, by omega, by go_num, Lib.hid HS3, Lib.hid (HR2.out.block (B2.block _ HR2.out.lt (by simp))), Lib.hid (HB2.out.trans (B2.below (by simp) (by omega))), by have := B2.size; omega⟩
      case measure => simp [Go.RowKit.intOf]; omega
    · have hki : ¬ (k : Int) < (l.length : Int) := by omega
      obtain rfl : k = l.length := by omega
      go_wp2_with fail
      go_ret
      exact ⟨_, rfl, ⟨⟨w.heap.size + 1, w.heap.size, l.length, rfl, by omega, Nat.le_refl _, HR2.out.lt, HR2.out.cellAt (i := 0) rfl, HS2.out.iff fun z => by rw [List.take_length]⟩⟩, HB2.out⟩
end Go.Proofs.Ytlemjegngnfanaa.Pl
