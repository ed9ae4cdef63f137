/- What Flush does. -/
import Derived.Test.YthcjhbjhghfhjaaDskD
namespace Go.Proofs.Ythcjhbjhghfhjaa.Dsk
open Go.RowKit Go.Proofs.Ythcjhbjhghfhjaa.Oct
set_option linter.unusedVariables false

/-- The first k writes that wait are laid, of the i-th one so many bytes as f tells. -/
def laid (s : St) (f : Nat → Nat) : Nat → St
  | 0 => s
  | k + 1 => match s.W[k]? with
    | some x => (laid s f k).lay x.1 (x.2.take (f k))
    | none => laid s f k
theorem laid_frame (s : St) (f : Nat → Nat) (k : Nat) : (laid s f k).n = s.n ∧ (laid s f k).W = s.W ∧ (laid s f k).gone = s.gone ∧ (laid s f k).armed = s.armed ∧ (laid s f k).left = s.left := by
  induction k with
  | zero => exact ⟨rfl, rfl, rfl, rfl, rfl⟩
  | succ k ih =>
    unfold laid
    split
    · exact ih
    · exact ih
theorem laid_succ (s : St) (f : Nat → Nat) (k : Nat) (h : k < s.W.length) : laid s f (k + 1) = (laid s f k).lay s.W[k].1 (s.W[k].2.take (f k)) := by
  show (match s.W[k]? with
    | some x => (laid s f k).lay x.1 (x.2.take (f k))
    | none => laid s f k) = _
  rw [List.getElem?_eq_getElem h]
theorem wait_of {w : World} {base a bb bc : Nat} {wv : Value} {s : St} {f : Nat → Nat} {k : Nat} (h : At w base a bb bc wv (laid s f k)) {g cap m : Nat} (hv : wv = .slice (some ⟨g, 0, none⟩) s.W.length cap) (hm : m < s.W.length) :
    w.cell? ⟨g, m * 129, none⟩ = some (.int .i64 (s.W[m].1 : Int)) ∧ Has w g (m * 129 + 1) s.W[m].2 := by
  obtain ⟨_, hW, _⟩ := laid_frame s f k
  have hv' : wv = .slice (some ⟨g, 0, none⟩) (laid s f k).W.length cap := by rw [hW]; exact hv
  have := h.wat hv' m (by rw [hW]; exact hm)
  have he : (laid s f k).W[m]'(by rw [hW]; exact hm) = s.W[m] := by simp only [hW]
  rwa [he] at this
theorem At.cleared {w : World} {base a bb bc : Nat} {wv : Value} {s : St} (h : At w base a bb bc wv s) : At (w.setCell ⟨a, 1, none⟩ (.slice none 0 0)) base a bb bc (.slice none 0 0) { s with W := [] } where
  lo := h.lo
  head := heap_setCell_same w a 1 _ _ (.slice none 0 0) h.head
  blocks := own_same h.blocks fun k hb _ => heap_setCell_other _ _ _ _ (by have := h.ne_blocks; cases hb; exact this)
  waits := World.ownsRow_nil _ _ _ _
  ok := ⟨h.ok.lo, h.ok.hi, h.ok.len, fun x hx => by simp at hx, Nat.zero_le _, h.ok.left⟩

def St.flushed (s : St) : St := { laid s.spent (fun _ => 128) s.W.length with W := [] }
def FlushPost (w : World) (base a bb bc : Nat) (s' : St) (e : Ending) (w' : World) : Prop := e = .returned (.int .i64 0) ∧ At w' base a bb bc (.slice none 0 0) s' ∧ Turned dT base w w'
set_option maxRecDepth 100000 in
set_option maxHeartbeats 800000 in
theorem flush_ok {w : World} {base a bb bc : Nat} {wv : Value} {s : St} (h : At w base a bb bc wv s) (hg : s.gone = false) (hc : s.can = true) :
    Calls Try.prog 27 #[.pointer (some ⟨a, 0, none⟩)] w (FlushPost w base a bb bc s.flushed) := by
  have c2 := h.c2
  rw [hg] at c2
  have c5 := h.c5
  have H := Lib.hid h
  have HC := Lib.hid hc
  clear h hg hc
  go_enter Try.func27, Try.ntmps27
  go_wp2_with fail
  refine (made_self a _ c5).mono ?_
  rintro e w' ⟨rfl, rfl⟩
  go_wp2_with fail
  refine (spend_at H.out).mono ?_
  rintro e w1 ⟨rfl, A1, T1⟩
  rw [HC.out]
  have c1 := A1.c1
  obtain ⟨A, cap, hv, hwc, hm, hA⟩ := A1.wform
  rw [hv] at c1
  have HF := Lib.hid (show s.flushed = { laid s.spent (fun _ => 128) s.spent.W.length with W := [] } from rfl)
  have hfew := A1.ok.few
  unfold maxLen at hm
  have HA1 := Lib.hid A1
  have HT1 := Lib.hid T1
  have HV := Lib.hid hv
  have HAA := Lib.hid hA
  generalize s.spent = s1 at *
  clear A1 T1 hv hA c2 c5
  go_wp2_with fail
  go_loopw [27] (fun i wr => ∃ k : Nat, k ≤ s1.W.length ∧ i = .int .i64 (k : Int) ∧ Hid (At wr base a bb bc wv (laid s1 (fun _ => 128) k)) ∧ Turned dT base w wr) (fun i _ => s1.W.length - (intOf i).toNat)
  case atStart => exact ⟨0, Nat.zero_le _, rfl, HA1, HT1.out⟩
  case round =>
    obtain ⟨k, hk, rfl, HR, hT⟩ := hrel
    have HT := Lib.hid hT
    obtain ⟨hfn, hfW, _⟩ := laid_frame s1 (fun _ => 128) k
    have HFN := Lib.hid hfn
    have c1 := HR.out.c1
    rw [HV.out] at c1
    clear hT c1 hfn hfW
    have c1 := HR.out.c1
    rw [HV.out] at c1
    by_cases hlt : k < s1.W.length
    · obtain ⟨g, hg, hg2⟩ := HAA.out (by omega)
      have hki : (k : Int) < (s1.W.length : Int) := by omega
      obtain ⟨W1, W2⟩ := wait_of HR.out.drew (by rw [HV.out, hg]) hlt
      have hw1 := HA1.out.ok.wait s1.W[k] (List.getElem_mem hlt)
      have hl128 := Lib.hid hw1.2
      have HS := Lib.hid (laid_succ s1 (fun _ => 128) k hlt)
      have hp : s1.W[k].1 < (laid s1 (fun _ => 128) k).n := by rw [HFN.out]; exact hw1.1
      subst hg
      have HW1 := Lib.hid W1
      have HW2 := Lib.hid W2
      clear W1 W2 hw1 hg2
      go_wp2_with fail
      go_still_tail 10, (by kernel_rfl)
      change wpList _ _ _ _ _ wr.drew
      go_wp2_with fail
      refine (lay_at HR.out.drew g (k * 129) s1.W[k].1 128 s1.W[k].2 hl128.out (by omega) hp HW1.out HW2.out).mono ?_
      rintro e w3 ⟨rfl, A3, T3⟩
      rw [← HS.out] at A3
      have HA3 := Lib.hid A3
      have HT3 := Lib.hid (HT.out.drew.trans T3)
      clear A3 T3 c1
      go_wp2_with fail
      go_roundw
      case rel => exact ⟨k + 1, by omega, by go_num, HA3, HT3.out⟩
      case measure => simp [intOf]; omega
    · obtain rfl : k = s1.W.length := by omega
      have f1 := HR.out.f 1
      go_wp2_with fail
      go_ret
      refine ⟨rfl, ?_, ?_⟩
      · rw [HF.out]
        exact HR.out.cleared
      · exact HT.out.setCell HR.out.lo HR.out.head rfl _
theorem flush_down {w : World} {base a bb bc : Nat} {wv : Value} {s : St} (h : At w base a bb bc wv s) (hg : s.gone = true) :
    Calls Try.prog 27 #[.pointer (some ⟨a, 0, none⟩)] w fun e w' => e = .returned (.int .i64 20) ∧ w = w' := by
  have c2 := h.c2
  rw [hg] at c2
  have c5 := h.c5
  have H := Lib.hid h
  clear h hg
  go_enter Try.func27, Try.ntmps27
  go_wp2_with fail
  refine (made_self a _ c5).mono ?_
  rintro e w' ⟨rfl, rfl⟩
  go_wp2_with fail
  go_ret
  exact ⟨rfl, rfl⟩
theorem flush_met {w : World} {base a bb bc : Nat} {wv : Value} {s : St} (h : At w base a bb bc wv s) (hg : s.gone = false) (hc : s.can = false) :
    Calls Try.prog 27 #[.pointer (some ⟨a, 0, none⟩)] w fun e w' => e = .returned (.int .i64 20) ∧ At w' base a bb bc wv s.spent ∧ Turned dT base w w' := by
  have c2 := h.c2
  rw [hg] at c2
  have c5 := h.c5
  have H := Lib.hid h
  have HC := Lib.hid hc
  clear h hg hc
  go_enter Try.func27, Try.ntmps27
  go_wp2_with fail
  refine (made_self a _ c5).mono ?_
  rintro e w' ⟨rfl, rfl⟩
  go_wp2_with fail
  refine (spend_at H.out).mono ?_
  rintro e w1 ⟨rfl, A1, T1⟩
  rw [HC.out]
  have HA1 := Lib.hid A1
  have HT1 := Lib.hid T1
  clear A1 T1
  go_wp2_with fail
  go_ret
  exact ⟨rfl, HA1.out, HT1.out⟩
end Go.Proofs.Ythcjhbjhghfhjaa.Dsk
