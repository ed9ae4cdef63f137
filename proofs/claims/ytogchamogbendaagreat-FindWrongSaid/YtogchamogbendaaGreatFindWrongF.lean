/- FindWrong: the closed facts of its row, one by one. (Written by bin/facts.py.) -/
import Derived.Test.YtogchamogbendaaGreatRows
import Derived.Test.YtogchamogbendaaGreatChecked
import Derived.JoinedOf
import Derived.KernelRfl
namespace Go.Proofs.YtogchamogbendaaGreat.findWrong
set_option maxRecDepth 100000
open Go Go.ChangeShapes Go.WideShapes
set_option linter.unusedVariables false

def fact1 (P : Program) (f : FuncId) (fn : Func) (s : ChangeSpec) (c : OpenClaim) : Bool := (c.wf (OpenSpec.ofChange s))
def fact2 (P : Program) (f : FuncId) (fn : Func) (s : ChangeSpec) (c : OpenClaim) : Bool := (laidOutB P)
def fact3 (P : Program) (f : FuncId) (fn : Func) (s : ChangeSpec) (c : OpenClaim) : Bool := (mapsRowed P)
def fact4 (P : Program) (f : FuncId) (fn : Func) (s : ChangeSpec) (c : OpenClaim) : Bool := (fn.params.all (P.readableRec ·))
def fact5 (P : Program) (f : FuncId) (fn : Func) (s : ChangeSpec) (c : OpenClaim) : Bool := (namedTie P c.named s.vars)
def fact6 (P : Program) (f : FuncId) (fn : Func) (s : ChangeSpec) (c : OpenClaim) : Bool := ((c.stops == []))
def fact7 (P : Program) (f : FuncId) (fn : Func) (s : ChangeSpec) (c : OpenClaim) : Bool := ((P.stops == []))
def fact8 (P : Program) (f : FuncId) (fn : Func) (s : ChangeSpec) (c : OpenClaim) : Bool := ((c.knobs == []))
def fact9 (P : Program) (f : FuncId) (fn : Func) (s : ChangeSpec) (c : OpenClaim) : Bool := ((P.stopKnobs == []))
def fact10 (P : Program) (f : FuncId) (fn : Func) (s : ChangeSpec) (c : OpenClaim) : Bool := ((c.inPlace == P.inPlace f))
def fact11 (P : Program) (f : FuncId) (fn : Func) (s : ChangeSpec) (c : OpenClaim) : Bool := ((c.unfollowed == P.unfollowed f))
def fact12 (P : Program) (f : FuncId) (fn : Func) (s : ChangeSpec) (c : OpenClaim) : Bool := ((c.recurses == P.recurses f))
def fact13 (P : Program) (f : FuncId) (fn : Func) (s : ChangeSpec) (c : OpenClaim) : Bool := ((c.named == P.varsNamed f))
def fact14 (P : Program) (f : FuncId) (fn : Func) (s : ChangeSpec) (c : OpenClaim) : Bool := ((c.maps == (fn.params.toList ++ s.plain.varTypes P).any (P.mapsRec ·)))
def fact15 (P : Program) (f : FuncId) (fn : Func) (s : ChangeSpec) (c : OpenClaim) : Bool := ((c.ifaces == (fn.params.toList ++ s.plain.varTypes P).any (P.ifacesRec ·)))
def fact16 (P : Program) (f : FuncId) (fn : Func) (s : ChangeSpec) (c : OpenClaim) : Bool := ((c.mapsOut == P.mapsAmong fn.resultTypes.toList))
def fact17 (P : Program) (f : FuncId) (fn : Func) (s : ChangeSpec) (c : OpenClaim) : Bool := ((c.loops == (fn.params.toList ++ s.plain.varTypes P).any (P.loopsFrom ·)))
def fact18 (P : Program) (f : FuncId) (fn : Func) (s : ChangeSpec) (c : OpenClaim) : Bool := ((c.wideKeys == (fn.params.toList ++ s.plain.varTypes P ++ fn.resultTypes.toList).any (P.wideKeysFrom ·)))
def fact19 (P : Program) (f : FuncId) (fn : Func) (s : ChangeSpec) (c : OpenClaim) : Bool := (s.vars.all (P.varReadable ·))
def fact20 (P : Program) (f : FuncId) (fn : Func) (s : ChangeSpec) (c : OpenClaim) : Bool := (fn.resultTypes.all (fun t => P.readableRec t && decide (t < P.types.size)))
def fact21 (P : Program) (f : FuncId) (fn : Func) (s : ChangeSpec) (c : OpenClaim) : Bool := ((c.ifacesOut == fn.resultTypes.toList.any (P.ifacesRec ·)))
def fact22 (P : Program) (f : FuncId) (fn : Func) (s : ChangeSpec) (c : OpenClaim) : Bool := ((c.loopsOut == fn.resultTypes.toList.any (P.loopsFrom ·)))
def fact23 (P : Program) (f : FuncId) (fn : Func) (s : ChangeSpec) (c : OpenClaim) : Bool := ((c.plainKeys == P.plainKeys))
def fact24 (P : Program) (f : FuncId) (fn : Func) (s : ChangeSpec) (c : OpenClaim) : Bool := (c.shortTexts.isNone)
def fact25 (P : Program) (f : FuncId) (fn : Func) (s : ChangeSpec) (c : OpenClaim) : Bool := (P.stopsHeard)
def fact26 (P : Program) (f : FuncId) (fn : Func) (s : ChangeSpec) (c : OpenClaim) : Bool := (P.mayEnter)
def fact27 (P : Program) (f : FuncId) (fn : Func) (s : ChangeSpec) (c : OpenClaim) : Bool := ((c.lifted == P.liftsFinal))
def fact28 (P : Program) (f : FuncId) (fn : Func) (s : ChangeSpec) (c : OpenClaim) : Bool := ((P.make == some c.make))
def fact29 (P : Program) (f : FuncId) (fn : Func) (s : ChangeSpec) (c : OpenClaim) : Bool := ((c.kinds == (if c.domain.isEmpty then [] else fn.params.toList.map fun t => match P.underlying t with | some (.int k) => some k | _ => none)))
def fact30 (P : Program) (f : FuncId) (fn : Func) (s : ChangeSpec) (c : OpenClaim) : Bool := ((c.pinned == c.pinnedBy))
def fact31 (P : Program) (f : FuncId) (fn : Func) (s : ChangeSpec) (c : OpenClaim) : Bool := ((c.veiled == (fn.params.toList ++ s.plain.varTypes P ++ fn.resultTypes.toList).any (P.veiledRec ·)))
def fact32 (P : Program) (f : FuncId) (fn : Func) (s : ChangeSpec) (c : OpenClaim) : Bool := (c.veiledFits P fn.params.toList (fn.params.toList ++ s.plain.varTypes P ++ fn.resultTypes.toList))
theorem stands1 : fact1 Tryz.prog 9 Tryz.f9 Rows.findWrongSpec Rows.findWrongRow = true := by kernel_rfl
theorem stands2 : fact2 Tryz.prog 9 Tryz.f9 Rows.findWrongSpec Rows.findWrongRow = true := by kernel_rfl
theorem stands3 : fact3 Tryz.prog 9 Tryz.f9 Rows.findWrongSpec Rows.findWrongRow = true := by kernel_rfl
theorem stands4 : fact4 Tryz.prog 9 Tryz.f9 Rows.findWrongSpec Rows.findWrongRow = true := by kernel_rfl
theorem stands5 : fact5 Tryz.prog 9 Tryz.f9 Rows.findWrongSpec Rows.findWrongRow = true := by kernel_rfl
theorem stands6 : fact6 Tryz.prog 9 Tryz.f9 Rows.findWrongSpec Rows.findWrongRow = true := by kernel_rfl
theorem stands7 : fact7 Tryz.prog 9 Tryz.f9 Rows.findWrongSpec Rows.findWrongRow = true := by kernel_rfl
theorem stands8 : fact8 Tryz.prog 9 Tryz.f9 Rows.findWrongSpec Rows.findWrongRow = true := by kernel_rfl
theorem stands9 : fact9 Tryz.prog 9 Tryz.f9 Rows.findWrongSpec Rows.findWrongRow = true := by kernel_rfl
theorem stands10 : fact10 Tryz.prog 9 Tryz.f9 Rows.findWrongSpec Rows.findWrongRow = true := by kernel_rfl
theorem stands11 : fact11 Tryz.prog 9 Tryz.f9 Rows.findWrongSpec Rows.findWrongRow = true := by kernel_rfl
theorem stands12 : fact12 Tryz.prog 9 Tryz.f9 Rows.findWrongSpec Rows.findWrongRow = true := by kernel_rfl
theorem stands13 : fact13 Tryz.prog 9 Tryz.f9 Rows.findWrongSpec Rows.findWrongRow = true := by kernel_rfl
theorem stands14 : fact14 Tryz.prog 9 Tryz.f9 Rows.findWrongSpec Rows.findWrongRow = true := by kernel_rfl
theorem stands15 : fact15 Tryz.prog 9 Tryz.f9 Rows.findWrongSpec Rows.findWrongRow = true := by kernel_rfl
theorem stands16 : fact16 Tryz.prog 9 Tryz.f9 Rows.findWrongSpec Rows.findWrongRow = true := by kernel_rfl
theorem stands17 : fact17 Tryz.prog 9 Tryz.f9 Rows.findWrongSpec Rows.findWrongRow = true := by kernel_rfl
theorem stands18 : fact18 Tryz.prog 9 Tryz.f9 Rows.findWrongSpec Rows.findWrongRow = true := by kernel_rfl
theorem stands19 : fact19 Tryz.prog 9 Tryz.f9 Rows.findWrongSpec Rows.findWrongRow = true := by kernel_rfl
theorem stands20 : fact20 Tryz.prog 9 Tryz.f9 Rows.findWrongSpec Rows.findWrongRow = true := by kernel_rfl
theorem stands21 : fact21 Tryz.prog 9 Tryz.f9 Rows.findWrongSpec Rows.findWrongRow = true := by kernel_rfl
theorem stands22 : fact22 Tryz.prog 9 Tryz.f9 Rows.findWrongSpec Rows.findWrongRow = true := by kernel_rfl
theorem stands23 : fact23 Tryz.prog 9 Tryz.f9 Rows.findWrongSpec Rows.findWrongRow = true := by kernel_rfl
theorem stands24 : fact24 Tryz.prog 9 Tryz.f9 Rows.findWrongSpec Rows.findWrongRow = true := by kernel_rfl
theorem stands25 : fact25 Tryz.prog 9 Tryz.f9 Rows.findWrongSpec Rows.findWrongRow = true := by kernel_rfl
theorem stands26 : fact26 Tryz.prog 9 Tryz.f9 Rows.findWrongSpec Rows.findWrongRow = true := by kernel_rfl
theorem stands27 : fact27 Tryz.prog 9 Tryz.f9 Rows.findWrongSpec Rows.findWrongRow = true := by kernel_rfl
theorem stands28 : fact28 Tryz.prog 9 Tryz.f9 Rows.findWrongSpec Rows.findWrongRow = true := by kernel_rfl
theorem stands29 : fact29 Tryz.prog 9 Tryz.f9 Rows.findWrongSpec Rows.findWrongRow = true := by kernel_rfl
theorem stands30 : fact30 Tryz.prog 9 Tryz.f9 Rows.findWrongSpec Rows.findWrongRow = true := by kernel_rfl
theorem stands31 : fact31 Tryz.prog 9 Tryz.f9 Rows.findWrongSpec Rows.findWrongRow = true := by kernel_rfl
theorem stands32 : fact32 Tryz.prog 9 Tryz.f9 Rows.findWrongSpec Rows.findWrongRow = true := by kernel_rfl
theorem joined (P : Program) (f : FuncId) (fn : Func) (s : ChangeSpec) (c : OpenClaim) (h1 : fact1 P f fn s c = true) (h2 : fact2 P f fn s c = true) (h3 : fact3 P f fn s c = true) (h4 : fact4 P f fn s c = true) (h5 : fact5 P f fn s c = true) (h6 : fact6 P f fn s c = true) (h7 : fact7 P f fn s c = true) (h8 : fact8 P f fn s c = true) (h9 : fact9 P f fn s c = true) (h10 : fact10 P f fn s c = true) (h11 : fact11 P f fn s c = true) (h12 : fact12 P f fn s c = true) (h13 : fact13 P f fn s c = true) (h14 : fact14 P f fn s c = true) (h15 : fact15 P f fn s c = true) (h16 : fact16 P f fn s c = true) (h17 : fact17 P f fn s c = true) (h18 : fact18 P f fn s c = true) (h19 : fact19 P f fn s c = true) (h20 : fact20 P f fn s c = true) (h21 : fact21 P f fn s c = true) (h22 : fact22 P f fn s c = true) (h23 : fact23 P f fn s c = true) (h24 : fact24 P f fn s c = true) (h25 : fact25 P f fn s c = true) (h26 : fact26 P f fn s c = true) (h27 : fact27 P f fn s c = true) (h28 : fact28 P f fn s c = true) (h29 : fact29 P f fn s c = true) (h30 : fact30 P f fn s c = true) (h31 : fact31 P f fn s c = true) (h32 : fact32 P f fn s c = true) : joinedFacts P f fn s c = true := by
  unfold joinedFacts
  exact (Bool.and_eq_true_iff.2 ⟨(Bool.and_eq_true_iff.2 ⟨(Bool.and_eq_true_iff.2 ⟨(Bool.and_eq_true_iff.2 ⟨(Bool.and_eq_true_iff.2 ⟨(Bool.and_eq_true_iff.2 ⟨(Bool.and_eq_true_iff.2 ⟨(Bool.and_eq_true_iff.2 ⟨(Bool.and_eq_true_iff.2 ⟨(Bool.and_eq_true_iff.2 ⟨(Bool.and_eq_true_iff.2 ⟨(Bool.and_eq_true_iff.2 ⟨(Bool.and_eq_true_iff.2 ⟨(Bool.and_eq_true_iff.2 ⟨(Bool.and_eq_true_iff.2 ⟨(Bool.and_eq_true_iff.2 ⟨(Bool.and_eq_true_iff.2 ⟨(Bool.and_eq_true_iff.2 ⟨(Bool.and_eq_true_iff.2 ⟨(Bool.and_eq_true_iff.2 ⟨(Bool.and_eq_true_iff.2 ⟨(Bool.and_eq_true_iff.2 ⟨(Bool.and_eq_true_iff.2 ⟨(Bool.and_eq_true_iff.2 ⟨(Bool.and_eq_true_iff.2 ⟨(Bool.and_eq_true_iff.2 ⟨(Bool.and_eq_true_iff.2 ⟨(Bool.and_eq_true_iff.2 ⟨(Bool.and_eq_true_iff.2 ⟨(Bool.and_eq_true_iff.2 ⟨(Bool.and_eq_true_iff.2 ⟨h1, h2⟩), h3⟩), h4⟩), h5⟩), h6⟩), h7⟩), h8⟩), h9⟩), h10⟩), h11⟩), h12⟩), h13⟩), h14⟩), h15⟩), h16⟩), h17⟩), h18⟩), h19⟩), h20⟩), h21⟩), h22⟩), h23⟩), h24⟩), h25⟩), h26⟩), h27⟩), h28⟩), h29⟩), h30⟩), h31⟩), h32⟩)
theorem closed : joinedFacts Tryz.prog 9 Tryz.f9 Rows.findWrongSpec Rows.findWrongRow = true := joined _ _ _ _ _ stands1 stands2 stands3 stands4 stands5 stands6 stands7 stands8 stands9 stands10 stands11 stands12 stands13 stands14 stands15 stands16 stands17 stands18 stands19 stands20 stands21 stands22 stands23 stands24 stands25 stands26 stands27 stands28 stands29 stands30 stands31 stands32
end Go.Proofs.YtogchamogbendaaGreat.findWrong
