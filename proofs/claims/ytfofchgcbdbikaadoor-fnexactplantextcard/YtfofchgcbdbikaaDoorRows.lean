/-
  NARROWER THAN 'FOR EVERY INPUT', by the rows' own cells (each row's printed sentence says how): FnPlanText: ifaces, laid · FnLinesPlan: ifaces, laid · FnExactLinesPlan: ifaces, laid · FnExactPlanText: loops, ifaces, laid.
  DERIVED. THE GIVEN ROWS OF THIS SEAT. 4 by the template 'for every input the law returns true; each argument reads behind the call as it read before'; 0 by the template 'total and deterministic' (their statements: YtfofchgcbdbikaaDoorTotals.lean).
  GIVEN WITH THE SEED: the statements are not yours to turn. If you find one false, say at which input.
  Laid BY PROGRAM, IN A SANDBOX (cutbox-rows.mjs): the forced cells as the released guide's own fill.sh prints them over the translation 2a78d50416836960… (all of the seat's roots in one cut). By AI agents, Wed Nov 11 2026. No macro, syntax, notation, axiom, sorry.
-/
import Derived.Test.YtfofchgcbdbikaaDoorChecked
import GoSem.PinnedTables
import GoSem.Claim
import GoSem.ClaimJoined
import GoSem.ClaimMapViews
import Derived.JoinedTies
import Derived.KernelRfl
namespace Go.Proofs.YtfofchgcbdbikaaDoor
/- THE CELL 'sum', in the pinned program and in every row, IS THE sha256 OF THE DUMP (.gsa) THAT YtfofchgcbdbikaaDoorProg.lean LOADS. Nothing in Lean hashes anything: it is a label: what it is worth is what the hold of that sum in a sandbox is worth. -/
noncomputable def Tryd.pinned : Pinned := { name := "ytfofchgcbdbikaadoor", sum := "2a78d50416836960c2ef5a941a6f3e2aef6df46d2edfc03d4900a553c5797cfe", checked := Tryd.checked }
namespace Rows
def none {H : Type} : Left H := { results := [], args := [] }

/- WHAT THE LISTED PACKAGE-LEVEL VARIABLES READ AS WHEN THE CALL BEGINS. Each datum BY PROGRAM (the guide's laid-datum.mjs) off the statement by which the dump's own 'gosem.cut.vars' lays the variable. In a bare row this is a premise. The card (YtfofchgcbdbikaaDoorCards.lean) ties it to the program's text. -/
def laid_unicode_utf8_acceptRanges {H : Type} : DataW H := .agg [.agg [.lit (.int .u8 128), .lit (.int .u8 191)], .agg [.lit (.int .u8 160), .lit (.int .u8 191)], .agg [.lit (.int .u8 128), .lit (.int .u8 159)], .agg [.lit (.int .u8 144), .lit (.int .u8 191)], .agg [.lit (.int .u8 128), .lit (.int .u8 143)], .agg [.lit (.int .u8 0), .lit (.int .u8 0)], .agg [.lit (.int .u8 0), .lit (.int .u8 0)], .agg [.lit (.int .u8 0), .lit (.int .u8 0)], .agg [.lit (.int .u8 0), .lit (.int .u8 0)], .agg [.lit (.int .u8 0), .lit (.int .u8 0)], .agg [.lit (.int .u8 0), .lit (.int .u8 0)], .agg [.lit (.int .u8 0), .lit (.int .u8 0)], .agg [.lit (.int .u8 0), .lit (.int .u8 0)], .agg [.lit (.int .u8 0), .lit (.int .u8 0)], .agg [.lit (.int .u8 0), .lit (.int .u8 0)], .agg [.lit (.int .u8 0), .lit (.int .u8 0)]]
def laid_loop_example_tideline_impl_errCannotBe {H : Type} : DataW H := .iface "*errors.errorString" (.ptr (.agg [.lit (.string [99, 97, 110, 110, 111, 116, 32, 98, 101])]))
/-- One of Go's own tables, pinned by name: the form's constant. -/
def laid_unicode_utf8_first : DataW Unit := Go.Pinned.utf8First

/-- 'laws.FnPlanText': WHATEVER THE INPUT: true; the input reads as it did. -/
def fnPlanTextSpec : ChangeSpec := { name := "fnPlanText", vars := ["loop.example/tideline/impl.errCannotBe"], fn := fun _ => fun
  | [d, g1] => { results := [.lit (.bool true)], args := [d], vars := [g1] }
  | _ => none }
def fnPlanTextRow : OpenClaim := { program := "ytfofchgcbdbikaadoor", sum := "2a78d50416836960c2ef5a941a6f3e2aef6df46d2edfc03d4900a553c5797cfe", func := "loop.example/tideline/laws.FnPlanText", spec := "fnPlanText", inPlace := ["internal/reflectlite.TypeOf", "internal/bytealg.CountString", "internal/bytealg.IndexByteString", "internal/bytealg.IndexString"], unfollowed := true, recurses := true, named := ["loop.example/tideline/impl.errCannotBe", "unicode/utf8.first", "unicode/utf8.acceptRanges", "internal/bytealg.MaxLen"], ifaces := true, apart := false, laid := [("unicode/utf8.acceptRanges", laid_unicode_utf8_acceptRanges), ("loop.example/tideline/impl.errCannotBe", laid_loop_example_tideline_impl_errCannotBe), ("unicode/utf8.first", laid_unicode_utf8_first)] }
def FnPlanTextSaid : Prop := fnPlanTextRow.holds Tryd.pinned (OpenSpec.ofChange fnPlanTextSpec)

/-- ITS FALSE NEIGHBOUR: 'it returns false'. Refute it at one input. -/
def fnPlanTextWrong : ChangeSpec := { name := "fnPlanText", vars := ["loop.example/tideline/impl.errCannotBe"], fn := fun _ => fun
  | [d, g1] => { results := [.lit (.bool false)], args := [d], vars := [g1] }
  | _ => none }
def FnPlanTextWrongFalsely : Prop := fnPlanTextRow.holds Tryd.pinned (OpenSpec.ofChange fnPlanTextWrong)

/-- 'laws.FnLinesPlan': WHATEVER THE INPUT: true; the input reads as it did. -/
def fnLinesPlanSpec : ChangeSpec := { name := "fnLinesPlan", vars := ["loop.example/tideline/impl.errCannotBe"], fn := fun _ => fun
  | [d, g1] => { results := [.lit (.bool true)], args := [d], vars := [g1] }
  | _ => none }
def fnLinesPlanRow : OpenClaim := { program := "ytfofchgcbdbikaadoor", sum := "2a78d50416836960c2ef5a941a6f3e2aef6df46d2edfc03d4900a553c5797cfe", func := "loop.example/tideline/laws.FnLinesPlan", spec := "fnLinesPlan", inPlace := ["internal/bytealg.CountString", "internal/bytealg.IndexByteString", "internal/bytealg.IndexString", "internal/reflectlite.TypeOf"], unfollowed := true, recurses := true, named := ["unicode/utf8.first", "unicode/utf8.acceptRanges", "internal/bytealg.MaxLen", "loop.example/tideline/impl.errCannotBe"], ifaces := true, apart := false, laid := [("unicode/utf8.acceptRanges", laid_unicode_utf8_acceptRanges), ("loop.example/tideline/impl.errCannotBe", laid_loop_example_tideline_impl_errCannotBe), ("unicode/utf8.first", laid_unicode_utf8_first)] }
def FnLinesPlanSaid : Prop := fnLinesPlanRow.holds Tryd.pinned (OpenSpec.ofChange fnLinesPlanSpec)

/-- ITS FALSE NEIGHBOUR: 'it returns false'. Refute it at one input. -/
def fnLinesPlanWrong : ChangeSpec := { name := "fnLinesPlan", vars := ["loop.example/tideline/impl.errCannotBe"], fn := fun _ => fun
  | [d, g1] => { results := [.lit (.bool false)], args := [d], vars := [g1] }
  | _ => none }
def FnLinesPlanWrongFalsely : Prop := fnLinesPlanRow.holds Tryd.pinned (OpenSpec.ofChange fnLinesPlanWrong)

/-- 'laws.FnExactLinesPlan': WHATEVER THE INPUT: true; the input reads as it did. -/
def fnExactLinesPlanSpec : ChangeSpec := { name := "fnExactLinesPlan", vars := ["loop.example/tideline/impl.errCannotBe"], fn := fun _ => fun
  | [d, g1] => { results := [.lit (.bool true)], args := [d], vars := [g1] }
  | _ => none }
def fnExactLinesPlanRow : OpenClaim := { program := "ytfofchgcbdbikaadoor", sum := "2a78d50416836960c2ef5a941a6f3e2aef6df46d2edfc03d4900a553c5797cfe", func := "loop.example/tideline/laws.FnExactLinesPlan", spec := "fnExactLinesPlan", inPlace := ["internal/bytealg.CountString", "internal/bytealg.IndexByteString", "internal/bytealg.IndexString"], unfollowed := true, recurses := true, named := ["unicode/utf8.first", "unicode/utf8.acceptRanges", "internal/bytealg.MaxLen", "loop.example/tideline/impl.errCannotBe"], ifaces := true, apart := false, laid := [("unicode/utf8.acceptRanges", laid_unicode_utf8_acceptRanges), ("loop.example/tideline/impl.errCannotBe", laid_loop_example_tideline_impl_errCannotBe), ("unicode/utf8.first", laid_unicode_utf8_first)] }
def FnExactLinesPlanSaid : Prop := fnExactLinesPlanRow.holds Tryd.pinned (OpenSpec.ofChange fnExactLinesPlanSpec)

/-- ITS FALSE NEIGHBOUR: 'it returns false'. Refute it at one input. -/
def fnExactLinesPlanWrong : ChangeSpec := { name := "fnExactLinesPlan", vars := ["loop.example/tideline/impl.errCannotBe"], fn := fun _ => fun
  | [d, g1] => { results := [.lit (.bool false)], args := [d], vars := [g1] }
  | _ => none }
def FnExactLinesPlanWrongFalsely : Prop := fnExactLinesPlanRow.holds Tryd.pinned (OpenSpec.ofChange fnExactLinesPlanWrong)

/-- 'laws.FnExactPlanText': WHATEVER THE INPUT: true; the input reads as it did. -/
def fnExactPlanTextSpec : ChangeSpec := { name := "fnExactPlanText", vars := ["loop.example/tideline/impl.errCannotBe"], fn := fun _ => fun
  | [d, g1] => { results := [.lit (.bool true)], args := [d], vars := [g1] }
  | _ => none }
def fnExactPlanTextRow : OpenClaim := { program := "ytfofchgcbdbikaadoor", sum := "2a78d50416836960c2ef5a941a6f3e2aef6df46d2edfc03d4900a553c5797cfe", func := "loop.example/tideline/laws.FnExactPlanText", spec := "fnExactPlanText", inPlace := ["internal/reflectlite.TypeOf"], unfollowed := true, recurses := true, named := ["loop.example/tideline/impl.errCannotBe"], ifaces := true, loops := true, apart := false, laid := [("loop.example/tideline/impl.errCannotBe", laid_loop_example_tideline_impl_errCannotBe)] }
def FnExactPlanTextSaid : Prop := fnExactPlanTextRow.holds Tryd.pinned (OpenSpec.ofChange fnExactPlanTextSpec)

/-- ITS FALSE NEIGHBOUR: 'it returns false'. Refute it at one input. -/
def fnExactPlanTextWrong : ChangeSpec := { name := "fnExactPlanText", vars := ["loop.example/tideline/impl.errCannotBe"], fn := fun _ => fun
  | [d, g1] => { results := [.lit (.bool false)], args := [d], vars := [g1] }
  | _ => none }
def FnExactPlanTextWrongFalsely : Prop := fnExactPlanTextRow.holds Tryd.pinned (OpenSpec.ofChange fnExactPlanTextWrong)

/- THE SECOND FORM. 'bulk': how many values and letters a reading holds, each counted each time it is reached (what is shared counts as often as it is met; a slice's spare places count too). A statement '..UptoSaid' is the law's where the arguments, and the package variables that the reading takes, are together of bulk at most 1048576: NARROWER than '..Said'. Prove '..Said' where nothing that the law and all that it calls make is longer than what came in: it says more and counts as full. Else prove '..UptoSaid'. A law counts once. -/
mutual
def uptoBulk {H : Type} : DataW H → Nat
  | .lit (.string bytes) => bytes.length + 1
  | .lit _ => 1
  | .nil => 1
  | .ptr d => uptoBulk d + 1
  | .slice elems spare => uptoBulkAll elems + uptoBulkAll spare + 1
  | .agg parts => uptoBulkAll parts + 1
  | .iface _ d => uptoBulk d + 1
  | .map entries => uptoBulkEntries entries + 1
  | .held _ => 1
def uptoBulkAll {H : Type} : List (DataW H) → Nat
  | [] => 0
  | d :: r => uptoBulk d + uptoBulkAll r
def uptoBulkEntries {H : Type} : List (Lit × DataW H) → Nat
  | [] => 0
  | x :: r => uptoBulkEntry x + uptoBulkEntries r
def uptoBulkEntry {H : Type} : Lit × DataW H → Nat
  | (.string bytes, d) => bytes.length + uptoBulk d + 1
  | (_, d) => uptoBulk d + 1
 end
def uptoSmall : (H : Type) → List (DataW H) → Bool := fun _ ds => decide (uptoBulkAll ds ≤ 1048576)
def OpenSpec.upto (s : _root_.Go.ChangeSpec) : _root_.Go.OpenSpec := { _root_.Go.OpenSpec.ofChange s with cond := some uptoSmall }

/-- 'laws.FnPlanText', WHERE WHAT IT READS IS OF BULK AT MOST 1048576: true; the input reads as it did. -/
def fnPlanTextUptoRow : OpenClaim := { program := "ytfofchgcbdbikaadoor", sum := "2a78d50416836960c2ef5a941a6f3e2aef6df46d2edfc03d4900a553c5797cfe", func := "loop.example/tideline/laws.FnPlanText", spec := "fnPlanText", inPlace := ["internal/reflectlite.TypeOf", "internal/bytealg.CountString", "internal/bytealg.IndexByteString", "internal/bytealg.IndexString"], unfollowed := true, recurses := true, named := ["loop.example/tideline/impl.errCannotBe", "unicode/utf8.first", "unicode/utf8.acceptRanges", "internal/bytealg.MaxLen"], ifaces := true, apart := false, laid := [("unicode/utf8.acceptRanges", laid_unicode_utf8_acceptRanges), ("loop.example/tideline/impl.errCannotBe", laid_loop_example_tideline_impl_errCannotBe), ("unicode/utf8.first", laid_unicode_utf8_first)], narrowed := true }
def FnPlanTextUptoSaid : Prop := fnPlanTextUptoRow.holds Tryd.pinned (OpenSpec.upto fnPlanTextSpec)

/-- 'laws.FnLinesPlan', WHERE WHAT IT READS IS OF BULK AT MOST 1048576: true; the input reads as it did. -/
def fnLinesPlanUptoRow : OpenClaim := { program := "ytfofchgcbdbikaadoor", sum := "2a78d50416836960c2ef5a941a6f3e2aef6df46d2edfc03d4900a553c5797cfe", func := "loop.example/tideline/laws.FnLinesPlan", spec := "fnLinesPlan", inPlace := ["internal/bytealg.CountString", "internal/bytealg.IndexByteString", "internal/bytealg.IndexString", "internal/reflectlite.TypeOf"], unfollowed := true, recurses := true, named := ["unicode/utf8.first", "unicode/utf8.acceptRanges", "internal/bytealg.MaxLen", "loop.example/tideline/impl.errCannotBe"], ifaces := true, apart := false, laid := [("unicode/utf8.acceptRanges", laid_unicode_utf8_acceptRanges), ("loop.example/tideline/impl.errCannotBe", laid_loop_example_tideline_impl_errCannotBe), ("unicode/utf8.first", laid_unicode_utf8_first)], narrowed := true }
def FnLinesPlanUptoSaid : Prop := fnLinesPlanUptoRow.holds Tryd.pinned (OpenSpec.upto fnLinesPlanSpec)

/-- 'laws.FnExactLinesPlan', WHERE WHAT IT READS IS OF BULK AT MOST 1048576: true; the input reads as it did. -/
def fnExactLinesPlanUptoRow : OpenClaim := { program := "ytfofchgcbdbikaadoor", sum := "2a78d50416836960c2ef5a941a6f3e2aef6df46d2edfc03d4900a553c5797cfe", func := "loop.example/tideline/laws.FnExactLinesPlan", spec := "fnExactLinesPlan", inPlace := ["internal/bytealg.CountString", "internal/bytealg.IndexByteString", "internal/bytealg.IndexString"], unfollowed := true, recurses := true, named := ["unicode/utf8.first", "unicode/utf8.acceptRanges", "internal/bytealg.MaxLen", "loop.example/tideline/impl.errCannotBe"], ifaces := true, apart := false, laid := [("unicode/utf8.acceptRanges", laid_unicode_utf8_acceptRanges), ("loop.example/tideline/impl.errCannotBe", laid_loop_example_tideline_impl_errCannotBe), ("unicode/utf8.first", laid_unicode_utf8_first)], narrowed := true }
def FnExactLinesPlanUptoSaid : Prop := fnExactLinesPlanUptoRow.holds Tryd.pinned (OpenSpec.upto fnExactLinesPlanSpec)

/-- 'laws.FnExactPlanText', WHERE WHAT IT READS IS OF BULK AT MOST 1048576: true; the input reads as it did. -/
def fnExactPlanTextUptoRow : OpenClaim := { program := "ytfofchgcbdbikaadoor", sum := "2a78d50416836960c2ef5a941a6f3e2aef6df46d2edfc03d4900a553c5797cfe", func := "loop.example/tideline/laws.FnExactPlanText", spec := "fnExactPlanText", inPlace := ["internal/reflectlite.TypeOf"], unfollowed := true, recurses := true, named := ["loop.example/tideline/impl.errCannotBe"], ifaces := true, loops := true, apart := false, laid := [("loop.example/tideline/impl.errCannotBe", laid_loop_example_tideline_impl_errCannotBe)], narrowed := true }
def FnExactPlanTextUptoSaid : Prop := fnExactPlanTextUptoRow.holds Tryd.pinned (OpenSpec.upto fnExactPlanTextSpec)

end Rows
end Go.Proofs.YtfofchgcbdbikaaDoor
