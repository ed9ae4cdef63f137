/- The reference of shelf: Encode. -/
import Derived.Test.YtamibckpkhpmfaaSrB
import Derived.Test.YtamibckpkhpmfaaSfJ
import Derived.Test.YtamibckpkhpmfaaRoB
namespace Go.Proofs.Ytamibckpkhpmfaa.Sf
open Go.RowKit Go.Proofs.Ytamibckpkhpmfaa.Oct
set_option linter.unusedVariables false

theorem own_two (w : World) (d : UInt8) (n : Nat) (hn : n < 256) : Own (w.alloc (.cells #[.int .u8 (d.toNat : Int), .int .u8 (n : Int)] 5)) w.heap.size (.slice (some ⟨w.heap.size, 0, none⟩) 2 2) (bytesOf d.toNat 1 ++ bytesOf n 1) := by
  have h := Own.lit w w.heap.size (bytesOf d.toNat 1 ++ bytesOf n 1) (Nat.le_refl _) (by simp [length_bytesOf]; decide)
  have hd := u8_le d
  have e : vals (bytesOf d.toNat 1 ++ bytesOf n 1) = [.int .u8 (d.toNat : Int), .int .u8 (n : Int)] := by
    simp [vals, bytesOf]
    omega
  rw [e] at h
  simpa [length_bytesOf] using h
def REnc (w : World) (ps : List UInt8) (e : Ending) (w' : World) : Prop := ∃ a c, e = .returned (.tuple #[.slice a 128 c, .int .i64 0]) ∧ Oct.Told w' a ps ∧ Below w.heap.size w w'

set_option maxRecDepth 100000 in
set_option maxHeartbeats 1000000 in
theorem rencode_no (d : UInt8) (nx : UInt32) {w : World} {A : Option Addr} {n c : Nat} {es : List Ent} (h : Sh w A n c es) (hf : ¬ Fit d nx es) :
    Calls Try.prog 11 #[.agg #[.int .u8 (d.toNat : Int), .int .u32 (nx.toNat : Int), .slice A n c]] w fun e w' => e = .returned (.tuple #[.slice none 0 0, .int .i64 40]) ∧ Below w.heap.size w w' := by
  have HD := Lib.hid (h.boxed (.cells #[.int .u8 (d.toNat : Int), .int .u32 (nx.toNat : Int), .slice A n c] 25))
  have BB := Lib.hid ((Below.refl w.heap.size w).alloc (Nat.le_refl _) (.cells #[.int .u8 (d.toNat : Int), .int .u32 (nx.toNat : Int), .slice A n c] 25))
  have HF := Lib.hid hf
  clear h hf
  go_enter Try.func11, Try.ntmps11
  go_wp2_with fail
  refine (rright_any d nx HD.out).mono ?_
  rintro e w2 ⟨rfl, B2⟩
  rw [decide_eq_false HF.out]
  have BB2 := Lib.hid (BB.out.trans (B2.mono BB.out.size))
  clear B2
  go_wp2_with fail
  go_ret2
  exact ⟨rfl, BB2.out⟩

set_option maxRecDepth 100000 in
set_option maxHeartbeats 2000000 in
theorem rencode_yes (d : UInt8) (nx : UInt32) {w : World} {A : Option Addr} {n c : Nat} {es : List Ent} (h : Sh w A n c es) (hf : Fit d nx es) :
    Calls Try.prog 11 #[.agg #[.int .u8 (d.toNat : Int), .int .u32 (nx.toNat : Int), .slice A n c]] w (REnc w (shelfPage d nx es)) := by
  have b1 := (Below.refl w.heap.size w).alloc (Nat.le_refl _) (.cells #[.int .u8 (d.toNat : Int), .int .u32 (nx.toNat : Int), .slice A n c] 25)
  have R1 := Lib.hid (show Rr w (w.alloc (.cells #[.int .u8 (d.toNat : Int), .int .u32 (nx.toNat : Int), .slice A n c] 25)) d nx A n c es from ⟨b1, box_new w d nx A n c, h.below b1⟩)
  have HL := Lib.hid h.el
  have hn : n ≤ 9 := by have := hf.2.2.1; rw [h.el] at this; exact this
  have HF := Lib.hid hf
  have hd := u8_le d
  have hx := u32_lt nx
  clear h hf b1
  go_enter Try.func11, Try.ntmps11
  go_wp2_with fail
  generalize w.alloc (.cells #[.int .u8 (d.toNat : Int), .int .u32 (nx.toNat : Int), .slice A n c] 25) = w1 at *
  refine (rright_any d nx R1.out.sh).mono ?_
  rintro e w2 ⟨rfl, B2⟩
  rw [decide_eq_true HF.out]
  have R2 := Lib.hid (R1.out.grow B2)
  clear B2 R1
  obtain ⟨x0, x1, x2, _⟩ := R2.out.box
  go_wp2_with fail
  refine (bytes_any nx.toNat 4 _ (by omega) (by decide)).mono ?_
  rintro e w3 ⟨g, rfl, hg, RG, B3⟩
  have R3 := Lib.hid (R2.out.grow B3)
  have G3 := Lib.hid (show Has w3 g 0 (bytesOf nx.toNat 4) ∧ g < w3.heap.size from ⟨RG.has, RG.lt⟩)
  clear B3 R2 RG hg x0 x1 x2
  obtain ⟨x0, x1, x2, _⟩ := R3.out.box
  have O4 := Lib.hid (own_two w3 d n (by omega))
  have b4 := (Below.refl w3.heap.size w3).alloc (Nat.le_refl _) (.cells #[.int .u8 (d.toNat : Int), .int .u8 (n : Int)] 5)
  have R4 := Lib.hid (R3.out.grow b4)
  have G4 := Lib.hid (G3.out.1.below G3.out.2 b4)
  have hs4 := Lib.hid b4.size
  clear b4 G3
  go_wp2_with (at_builtin; refine wpList_append_bytes rfl (.tmp 28) (.tmp 29) rfl w3.heap.size _ (bytesOf d.toNat 1 ++ bytesOf n 1) (bytesOf nx.toNat 4) rfl O4.out (some ⟨g, 0, none⟩) 4 4 rfl (length_bytesOf 4 _) G4.out.told (fun h => by cases h) (by simp [length_bytesOf]) hs4.out ?_; intro v5 w5 O5 B5)
  have O6 := Lib.hid (show Own w5 w3.heap.size v5 (head d nx n) from O5)
  have B6 := Lib.hid (show Below w3.heap.size w3 w5 from ((Below.refl w3.heap.size w3).alloc (Nat.le_refl _) _).trans B5)
  clear O5 B5 O4 R4 G4 hs4 x0 x1 x2
  go_loopw [6, 7] (fun v i wr => ∃ k : Nat, k ≤ n ∧ i = .int .i64 (k : Int) ∧ Hid (Own wr w3.heap.size v (head d nx n ++ ebytes (es.take k))) ∧ Hid (Below w3.heap.size w3 wr)) (fun _ i _ => n - (intOf i).toNat)
  case atStart => exact ⟨0, Nat.zero_le _, rfl, Lib.hid (by simpa [ebytes] using O6.out), B6⟩
  case round =>
    obtain ⟨k, hk, rfl, HO, HB⟩ := hrel
    clear O6 B6
    have RR := Lib.hid (R3.out.grow HB.out)
    obtain ⟨x0, x1, x2, _⟩ := RR.out.box
    by_cases hlt : k < n
    · obtain ⟨b, o, rfl, hb, c1, c2⟩ := RR.out.sh.at hlt
      have HSN := Lib.hid (show head d nx n ++ ebytes (es.take (k + 1)) = head d nx n ++ ebytes (es.take k) ++ bytesOf (es[k]'(by rw [HL.out]; exact hlt)).1.toNat 8 ++ bytesOf (es[k]'(by rw [HL.out]; exact hlt)).2.toNat 4 by
        rw [List.take_succ_eq_append_getElem (by rw [HL.out]; exact hlt), ebytes_snoc]; simp [List.append_assoc])
      have HPL := Lib.hid (show (head d nx n ++ ebytes (es.take k)).length = 6 + 12 * k by
        rw [List.length_append, length_head, length_ebytes, List.length_take, HL.out, Nat.min_eq_left (by omega)])
      obtain ⟨x, hxx⟩ : ∃ x, x = es[k]'(by rw [HL.out]; exact hlt) := ⟨_, rfl⟩
      rw [← hxx] at c1 c2 HSN
      have HX := Lib.hid hxx
      clear hxx
      generalize head d nx n ++ ebytes (es.take k) = P at *
      have hx1 := u64_lt x.1
      have hx2 := u32_lt x.2
      have hkn : (k : Int) < (n : Int) := by omega
      go_wp2_with fail
      refine (bytes_any x.1.toNat 8 _ (by omega) (by decide)).mono ?_
      rintro e w6 ⟨g8, rfl, hg8, R8, B8⟩
      have RR6 := Lib.hid (RR.out.grow B8)
      have HO6 := Lib.hid (HO.out.kept B8 (Nat.le_refl _))
      have HB6 := Lib.hid (HB.out.trans (B8.mono HB.out.size))
      have H8 := Lib.hid (And.intro R8.has R8.lt)
      clear B8 R8 HO HB RR x0 x1 x2 c1 c2 hg8
      obtain ⟨x0, x1, x2, _⟩ := RR6.out.box
      obtain ⟨b', o', hA, hb', c1, c2⟩ := RR6.out.sh.at hlt
      cases hA
      rw [← HX.out] at c1 c2
      go_wp2_with fail
      refine (bytes_any x.2.toNat 4 _ (by omega) (by decide)).mono ?_
      rintro e w7 ⟨g4, rfl, hg4, R4, B4⟩
      have O7 := HO6.out.kept B4 (Nat.le_refl _)
      have hb7 : w3.heap.size ≤ w7.heap.size := Nat.le_trans HB6.out.size B4.size
      obtain ⟨v8, w8, hr1, O8, B8, K8⟩ := run_append_bytes2 w7 26 w3.heap.size u6 P (bytesOf x.1.toNat 8) O7 g8 8 8 (length_bytesOf 8 _) (H8.out.1.below H8.out.2 B4) (by rw [HPL.out]; omega) hb7
      have H48 : Has w8 g4 0 (bytesOf x.2.toNat 4) := fun i hi => (World.cell?_of_block (K8 g4 (Row.lt R4) (fun e => by have := (World.ownsRow.lt HO6.out g4 e).2; omega))).trans (R4.has i hi)
      obtain ⟨v9, w9, hr2, O9, B9, _⟩ := run_append_bytes2 w8 26 w3.heap.size v8 (P ++ bytesOf x.1.toNat 8) (bytesOf x.2.toNat 4) O8 g4 4 4 (length_bytesOf 4 _) H48 (by rw [List.length_append, HPL.out, length_bytesOf]; omega) (Nat.le_trans hb7 B8.size)
      rw [← HSN.out] at O9
      have HO9 := Lib.hid O9
      have HB9 := Lib.hid (((HB6.out.trans (B4.mono HB6.out.size)).trans B8).trans B9)
      clear O7 O8 O9 H48 K8 B8 B9 B4 R4 HO6 HB6 RR6 x0 x1 x2 c1 c2 hg4 H8 hb7
      go_wp2_with (first | (at_builtin; refine wpList_append_run rfl (.tmp 59) (.tmp 60) _ rfl _ _ rfl rfl v8 w8 hr1 ?_) | (at_builtin; refine wpList_append_run rfl (.tmp 61) (.tmp 62) _ rfl _ _ rfl rfl v9 w9 hr2 ?_))
      go_roundw
      case rel => exact ⟨k + 1, by omega, by go_num, HO9, HB9⟩
      case measure => simp [intOf]; omega
    · obtain rfl : k = n := by omega
      obtain ⟨a, cc, rfl, hT, hc1, hc2, hne⟩ := HO.out.slice
      have HPE := Lib.hid (show head d nx k ++ ebytes (es.take k) = shelfBody d nx es by
        rw [List.take_of_length_le (by rw [HL.out]; exact Nat.le_refl _)]; unfold shelfBody; rw [HL.out])
      rw [HPE.out] at hT hne
      have HLB := Lib.hid (show (head d nx k ++ ebytes (es.take k)).length = 6 + 12 * k by rw [HPE.out, length_body, HL.out])
      rw [HLB.out]
      have HT := Lib.hid hT
      have HNE := Lib.hid hne
      clear hT hne hc1 hc2
      have hnl : a = none → cc = 0 := fun e => by
        have : shelfBody d nx es ≠ [] := fun e => by have := length_body d nx es; rw [e] at this; simp at this; omega
        obtain ⟨g, e', _⟩ := HNE.out this
        rw [e] at e'
        cases e'
      have HNL := Lib.hid hnl
      clear hnl
      go_wp2_with fail
      refine (rseal_any 3 a (6 + 12 * k) cc (shelfBody d nx es) (by rw [length_body, HL.out]) _ (by omega) HT.out HNL.out).mono ?_
      rintro e w9 ⟨v, rfl, O9, B9⟩
      obtain ⟨a', c', rfl, hT', _⟩ := O9.slice
      have HT9 := Lib.hid hT'
      have HBF := Lib.hid (RR.out.below.trans (B9.mono RR.out.below.size))
      have hlp : (page 3 (shelfBody d nx es)).length = 128 := length_page _ _ (by rw [length_body, HL.out]; omega)
      rw [hlp]
      clear O9 hT' B9 hlp
      go_wp2_with fail
      go_ret2
      exact ⟨a', c', rfl, HT9.out, HBF.out⟩
end Go.Proofs.Ytamibckpkhpmfaa.Sf
