/-
  NARROWER THAN 'FOR EVERY INPUT', by the rows' own cells (each row's printed sentence says how): CompileTexts: laid · CompileRights: laid · CompilePrints: laid · CompileBack: laid · CompileNames: laid · CompileLines: laid · CompileLimits: laid.
  DERIVED. THE GIVEN ROWS OF THIS SEAT. 7 by the template 'for every input the law returns true; each argument reads behind the call as it read before'; 0 by the template 'total and deterministic' (their statements: YtiapnfgmddhbgaaGreatDoorTotals.lean).
  GIVEN WITH THE SEED: the statements are not yours to turn. If you find one false, say at which input.
  Laid BY PROGRAM, IN A SANDBOX (cutbox-rows.mjs): the forced cells as the released guide's own fill.sh prints them over the translation edd96e1d99e5a5c4… (all of the seat's roots in one cut). By AI agents, Wed Nov 11 2026. No macro, syntax, notation, axiom, sorry.
-/
import Derived.Test.YtiapnfgmddhbgaaGreatDoorChecked
import GoSem.Claim
import GoSem.ClaimJoined
import GoSem.ClaimMapViews
import Derived.JoinedTies
import Derived.KernelRfl
namespace Go.Proofs.YtiapnfgmddhbgaaGreatDoor
/- THE CELL 'sum', in the pinned program and in every row, IS THE sha256 OF THE DUMP (.gsa) THAT YtiapnfgmddhbgaaGreatDoorProg.lean LOADS. Nothing in Lean hashes anything: it is a label: what it is worth is what the hold of that sum in a sandbox is worth. -/
noncomputable def Tryz.pinned : Pinned := { name := "ytiapnfgmddhbgaagreatdoor", sum := "edd96e1d99e5a5c46fc752f74e6785c7b3090917c800ca8b8b41f04afa3d0cc2", checked := Tryz.checked }
namespace Rows
def none {H : Type} : Left H := { results := [], args := [] }

/- WHAT THE LISTED PACKAGE-LEVEL VARIABLES READ AS WHEN THE CALL BEGINS. Each datum BY PROGRAM (the guide's laid-datum.mjs) off the statement by which the dump's own 'gosem.cut.vars' lays the variable. In a bare row this is a premise. The card (YtiapnfgmddhbgaaGreatDoorCards.lean) ties it to the program's text. -/
def laid_math_bits_deBruijn32tab {H : Type} : DataW H := .agg [.lit (.int .u8 0), .lit (.int .u8 1), .lit (.int .u8 28), .lit (.int .u8 2), .lit (.int .u8 29), .lit (.int .u8 14), .lit (.int .u8 24), .lit (.int .u8 3), .lit (.int .u8 30), .lit (.int .u8 22), .lit (.int .u8 20), .lit (.int .u8 15), .lit (.int .u8 25), .lit (.int .u8 17), .lit (.int .u8 4), .lit (.int .u8 8), .lit (.int .u8 31), .lit (.int .u8 27), .lit (.int .u8 13), .lit (.int .u8 23), .lit (.int .u8 21), .lit (.int .u8 19), .lit (.int .u8 16), .lit (.int .u8 7), .lit (.int .u8 26), .lit (.int .u8 12), .lit (.int .u8 18), .lit (.int .u8 6), .lit (.int .u8 11), .lit (.int .u8 5), .lit (.int .u8 10), .lit (.int .u8 9)]
def laid_math_bits_deBruijn64tab {H : Type} : DataW H := .agg [.lit (.int .u8 0), .lit (.int .u8 1), .lit (.int .u8 56), .lit (.int .u8 2), .lit (.int .u8 57), .lit (.int .u8 49), .lit (.int .u8 28), .lit (.int .u8 3), .lit (.int .u8 61), .lit (.int .u8 58), .lit (.int .u8 42), .lit (.int .u8 50), .lit (.int .u8 38), .lit (.int .u8 29), .lit (.int .u8 17), .lit (.int .u8 4), .lit (.int .u8 62), .lit (.int .u8 47), .lit (.int .u8 59), .lit (.int .u8 36), .lit (.int .u8 45), .lit (.int .u8 43), .lit (.int .u8 51), .lit (.int .u8 22), .lit (.int .u8 53), .lit (.int .u8 39), .lit (.int .u8 33), .lit (.int .u8 30), .lit (.int .u8 24), .lit (.int .u8 18), .lit (.int .u8 12), .lit (.int .u8 5), .lit (.int .u8 63), .lit (.int .u8 55), .lit (.int .u8 48), .lit (.int .u8 27), .lit (.int .u8 60), .lit (.int .u8 41), .lit (.int .u8 37), .lit (.int .u8 16), .lit (.int .u8 46), .lit (.int .u8 35), .lit (.int .u8 44), .lit (.int .u8 21), .lit (.int .u8 52), .lit (.int .u8 32), .lit (.int .u8 23), .lit (.int .u8 11), .lit (.int .u8 54), .lit (.int .u8 26), .lit (.int .u8 40), .lit (.int .u8 15), .lit (.int .u8 34), .lit (.int .u8 20), .lit (.int .u8 31), .lit (.int .u8 10), .lit (.int .u8 25), .lit (.int .u8 14), .lit (.int .u8 19), .lit (.int .u8 9), .lit (.int .u8 13), .lit (.int .u8 8), .lit (.int .u8 7), .lit (.int .u8 6)]
def laid_internal_strconv_uint64pow10 {H : Type} : DataW H := .agg [.lit (.int .u64 1), .lit (.int .u64 10), .lit (.int .u64 100), .lit (.int .u64 1000), .lit (.int .u64 10000), .lit (.int .u64 100000), .lit (.int .u64 1000000), .lit (.int .u64 10000000), .lit (.int .u64 100000000), .lit (.int .u64 1000000000), .lit (.int .u64 10000000000), .lit (.int .u64 100000000000), .lit (.int .u64 1000000000000), .lit (.int .u64 10000000000000), .lit (.int .u64 100000000000000), .lit (.int .u64 1000000000000000), .lit (.int .u64 10000000000000000), .lit (.int .u64 100000000000000000), .lit (.int .u64 1000000000000000000), .lit (.int .u64 10000000000000000000)]

/-- 'dragomanlaw15.CompileTexts': WHATEVER THE INPUT: true; the input reads as it did. -/
def compileTextsSpec : ChangeSpec := { name := "compileTexts", fn := fun _ => fun
  | [d] => { results := [.lit (.bool true)], args := [d] }
  | _ => none }
def compileTextsRow : OpenClaim := { program := "ytiapnfgmddhbgaagreatdoor", sum := "edd96e1d99e5a5c46fc752f74e6785c7b3090917c800ca8b8b41f04afa3d0cc2", func := "dragoman/dragomanlaw15.CompileTexts", spec := "compileTexts", inPlace := ["internal/bytealg.IndexByteString", "internal/abi.NoEscape", "internal/bytealg.MakeNoZero"], unfollowed := true, recurses := true, named := ["internal/strconv.uint64pow10", "math/bits.deBruijn32tab", "math/bits.deBruijn64tab"], apart := false, laid := [("math/bits.deBruijn32tab", laid_math_bits_deBruijn32tab), ("math/bits.deBruijn64tab", laid_math_bits_deBruijn64tab), ("internal/strconv.uint64pow10", laid_internal_strconv_uint64pow10)] }
def CompileTextsSaid : Prop := compileTextsRow.holds Tryz.pinned (OpenSpec.ofChange compileTextsSpec)

/-- ITS FALSE NEIGHBOUR: 'it returns false'. Refute it at one input. -/
def compileTextsWrong : ChangeSpec := { name := "compileTexts", fn := fun _ => fun
  | [d] => { results := [.lit (.bool false)], args := [d] }
  | _ => none }
def CompileTextsWrongFalsely : Prop := compileTextsRow.holds Tryz.pinned (OpenSpec.ofChange compileTextsWrong)

/-- 'dragomanlaw15.CompileRights': WHATEVER THE INPUT: true; the input reads as it did. -/
def compileRightsSpec : ChangeSpec := { name := "compileRights", fn := fun _ => fun
  | [d] => { results := [.lit (.bool true)], args := [d] }
  | _ => none }
def compileRightsRow : OpenClaim := { program := "ytiapnfgmddhbgaagreatdoor", sum := "edd96e1d99e5a5c46fc752f74e6785c7b3090917c800ca8b8b41f04afa3d0cc2", func := "dragoman/dragomanlaw15.CompileRights", spec := "compileRights", inPlace := ["internal/bytealg.IndexByteString", "internal/abi.NoEscape", "internal/bytealg.MakeNoZero"], unfollowed := true, recurses := true, named := ["internal/strconv.uint64pow10", "math/bits.deBruijn32tab", "math/bits.deBruijn64tab"], apart := false, laid := [("math/bits.deBruijn32tab", laid_math_bits_deBruijn32tab), ("math/bits.deBruijn64tab", laid_math_bits_deBruijn64tab), ("internal/strconv.uint64pow10", laid_internal_strconv_uint64pow10)] }
def CompileRightsSaid : Prop := compileRightsRow.holds Tryz.pinned (OpenSpec.ofChange compileRightsSpec)

/-- ITS FALSE NEIGHBOUR: 'it returns false'. Refute it at one input. -/
def compileRightsWrong : ChangeSpec := { name := "compileRights", fn := fun _ => fun
  | [d] => { results := [.lit (.bool false)], args := [d] }
  | _ => none }
def CompileRightsWrongFalsely : Prop := compileRightsRow.holds Tryz.pinned (OpenSpec.ofChange compileRightsWrong)

/-- 'dragomanlaw15.CompilePrints': WHATEVER THE INPUT: true; the input reads as it did. -/
def compilePrintsSpec : ChangeSpec := { name := "compilePrints", fn := fun _ => fun
  | [d] => { results := [.lit (.bool true)], args := [d] }
  | _ => none }
def compilePrintsRow : OpenClaim := { program := "ytiapnfgmddhbgaagreatdoor", sum := "edd96e1d99e5a5c46fc752f74e6785c7b3090917c800ca8b8b41f04afa3d0cc2", func := "dragoman/dragomanlaw15.CompilePrints", spec := "compilePrints", inPlace := ["internal/bytealg.IndexByteString", "internal/abi.NoEscape", "internal/bytealg.MakeNoZero"], unfollowed := true, recurses := true, named := ["internal/strconv.uint64pow10", "math/bits.deBruijn32tab", "math/bits.deBruijn64tab"], apart := false, laid := [("math/bits.deBruijn32tab", laid_math_bits_deBruijn32tab), ("math/bits.deBruijn64tab", laid_math_bits_deBruijn64tab), ("internal/strconv.uint64pow10", laid_internal_strconv_uint64pow10)] }
def CompilePrintsSaid : Prop := compilePrintsRow.holds Tryz.pinned (OpenSpec.ofChange compilePrintsSpec)

/-- ITS FALSE NEIGHBOUR: 'it returns false'. Refute it at one input. -/
def compilePrintsWrong : ChangeSpec := { name := "compilePrints", fn := fun _ => fun
  | [d] => { results := [.lit (.bool false)], args := [d] }
  | _ => none }
def CompilePrintsWrongFalsely : Prop := compilePrintsRow.holds Tryz.pinned (OpenSpec.ofChange compilePrintsWrong)

/-- 'dragomanlaw15.CompileBack': WHATEVER THE INPUT: true; the input reads as it did. -/
def compileBackSpec : ChangeSpec := { name := "compileBack", fn := fun _ => fun
  | [d1, d2] => { results := [.lit (.bool true)], args := [d1, d2] }
  | _ => none }
def compileBackRow : OpenClaim := { program := "ytiapnfgmddhbgaagreatdoor", sum := "edd96e1d99e5a5c46fc752f74e6785c7b3090917c800ca8b8b41f04afa3d0cc2", func := "dragoman/dragomanlaw15.CompileBack", spec := "compileBack", inPlace := ["internal/bytealg.IndexByteString", "internal/abi.NoEscape", "internal/bytealg.MakeNoZero"], unfollowed := true, recurses := true, named := ["internal/strconv.uint64pow10", "math/bits.deBruijn32tab", "math/bits.deBruijn64tab"], apart := false, laid := [("math/bits.deBruijn32tab", laid_math_bits_deBruijn32tab), ("math/bits.deBruijn64tab", laid_math_bits_deBruijn64tab), ("internal/strconv.uint64pow10", laid_internal_strconv_uint64pow10)] }
def CompileBackSaid : Prop := compileBackRow.holds Tryz.pinned (OpenSpec.ofChange compileBackSpec)

/-- ITS FALSE NEIGHBOUR: 'it returns false'. Refute it at one input. -/
def compileBackWrong : ChangeSpec := { name := "compileBack", fn := fun _ => fun
  | [d1, d2] => { results := [.lit (.bool false)], args := [d1, d2] }
  | _ => none }
def CompileBackWrongFalsely : Prop := compileBackRow.holds Tryz.pinned (OpenSpec.ofChange compileBackWrong)

/-- 'dragomanlaw15.CompileNames': WHATEVER THE INPUT: true; the input reads as it did. -/
def compileNamesSpec : ChangeSpec := { name := "compileNames", fn := fun _ => fun
  | [d1, d2, d3] => { results := [.lit (.bool true)], args := [d1, d2, d3] }
  | _ => none }
def compileNamesRow : OpenClaim := { program := "ytiapnfgmddhbgaagreatdoor", sum := "edd96e1d99e5a5c46fc752f74e6785c7b3090917c800ca8b8b41f04afa3d0cc2", func := "dragoman/dragomanlaw15.CompileNames", spec := "compileNames", inPlace := ["internal/bytealg.IndexByteString", "internal/abi.NoEscape", "internal/bytealg.MakeNoZero"], unfollowed := true, recurses := true, named := ["internal/strconv.uint64pow10", "math/bits.deBruijn32tab", "math/bits.deBruijn64tab"], apart := false, laid := [("math/bits.deBruijn32tab", laid_math_bits_deBruijn32tab), ("math/bits.deBruijn64tab", laid_math_bits_deBruijn64tab), ("internal/strconv.uint64pow10", laid_internal_strconv_uint64pow10)] }
def CompileNamesSaid : Prop := compileNamesRow.holds Tryz.pinned (OpenSpec.ofChange compileNamesSpec)

/-- ITS FALSE NEIGHBOUR: 'it returns false'. Refute it at one input. -/
def compileNamesWrong : ChangeSpec := { name := "compileNames", fn := fun _ => fun
  | [d1, d2, d3] => { results := [.lit (.bool false)], args := [d1, d2, d3] }
  | _ => none }
def CompileNamesWrongFalsely : Prop := compileNamesRow.holds Tryz.pinned (OpenSpec.ofChange compileNamesWrong)

/-- 'dragomanlaw15.CompileLines': WHATEVER THE INPUT: true; the input reads as it did. -/
def compileLinesSpec : ChangeSpec := { name := "compileLines", fn := fun _ => fun
  | [d] => { results := [.lit (.bool true)], args := [d] }
  | _ => none }
def compileLinesRow : OpenClaim := { program := "ytiapnfgmddhbgaagreatdoor", sum := "edd96e1d99e5a5c46fc752f74e6785c7b3090917c800ca8b8b41f04afa3d0cc2", func := "dragoman/dragomanlaw15.CompileLines", spec := "compileLines", inPlace := ["internal/bytealg.IndexByteString", "internal/abi.NoEscape", "internal/bytealg.MakeNoZero"], unfollowed := true, recurses := true, named := ["internal/strconv.uint64pow10", "math/bits.deBruijn32tab", "math/bits.deBruijn64tab"], apart := false, laid := [("math/bits.deBruijn32tab", laid_math_bits_deBruijn32tab), ("math/bits.deBruijn64tab", laid_math_bits_deBruijn64tab), ("internal/strconv.uint64pow10", laid_internal_strconv_uint64pow10)] }
def CompileLinesSaid : Prop := compileLinesRow.holds Tryz.pinned (OpenSpec.ofChange compileLinesSpec)

/-- ITS FALSE NEIGHBOUR: 'it returns false'. Refute it at one input. -/
def compileLinesWrong : ChangeSpec := { name := "compileLines", fn := fun _ => fun
  | [d] => { results := [.lit (.bool false)], args := [d] }
  | _ => none }
def CompileLinesWrongFalsely : Prop := compileLinesRow.holds Tryz.pinned (OpenSpec.ofChange compileLinesWrong)

/-- 'dragomanlaw15.CompileLimits': WHATEVER THE INPUT: true; the input reads as it did. -/
def compileLimitsSpec : ChangeSpec := { name := "compileLimits", fn := fun _ => fun
  | [] => { results := [.lit (.bool true)], args := [] }
  | _ => none }
def compileLimitsRow : OpenClaim := { program := "ytiapnfgmddhbgaagreatdoor", sum := "edd96e1d99e5a5c46fc752f74e6785c7b3090917c800ca8b8b41f04afa3d0cc2", func := "dragoman/dragomanlaw15.CompileLimits", spec := "compileLimits", inPlace := ["internal/bytealg.IndexByteString", "internal/abi.NoEscape", "internal/bytealg.MakeNoZero"], unfollowed := true, recurses := true, named := ["internal/strconv.uint64pow10", "math/bits.deBruijn32tab", "math/bits.deBruijn64tab"], apart := false, laid := [("math/bits.deBruijn32tab", laid_math_bits_deBruijn32tab), ("math/bits.deBruijn64tab", laid_math_bits_deBruijn64tab), ("internal/strconv.uint64pow10", laid_internal_strconv_uint64pow10)] }
def CompileLimitsSaid : Prop := compileLimitsRow.holds Tryz.pinned (OpenSpec.ofChange compileLimitsSpec)

/-- ITS FALSE NEIGHBOUR: 'it returns false'. Refute it at one input. -/
def compileLimitsWrong : ChangeSpec := { name := "compileLimits", fn := fun _ => fun
  | [] => { results := [.lit (.bool false)], args := [] }
  | _ => none }
def CompileLimitsWrongFalsely : Prop := compileLimitsRow.holds Tryz.pinned (OpenSpec.ofChange compileLimitsWrong)

/- THE SECOND FORM. 'bulk': how many values and letters a reading holds, each counted each time it is reached (what is shared counts as often as it is met; a slice's spare places count too). A statement '..UptoSaid' is the law's where the arguments, and the package variables that the reading takes, are together of bulk at most 1048576: NARROWER than '..Said'. Prove '..Said' where nothing that the law and all that it calls make is longer than what came in: it says more and counts as full. Else prove '..UptoSaid'. A law counts once. -/
mutual
def uptoBulk {H : Type} : DataW H → Nat
  | .lit (.string bytes) => bytes.length + 1
  | .lit _ => 1
  | .nil => 1
  | .ptr d => uptoBulk d + 1
  | .slice elems spare => uptoBulkAll elems + uptoBulkAll spare + 1
  | .agg parts => uptoBulkAll parts + 1
  | .iface _ d => uptoBulk d + 1
  | .map entries => uptoBulkEntries entries + 1
  | .held _ => 1
def uptoBulkAll {H : Type} : List (DataW H) → Nat
  | [] => 0
  | d :: r => uptoBulk d + uptoBulkAll r
def uptoBulkEntries {H : Type} : List (Lit × DataW H) → Nat
  | [] => 0
  | x :: r => uptoBulkEntry x + uptoBulkEntries r
def uptoBulkEntry {H : Type} : Lit × DataW H → Nat
  | (.string bytes, d) => bytes.length + uptoBulk d + 1
  | (_, d) => uptoBulk d + 1
 end
def uptoSmall : (H : Type) → List (DataW H) → Bool := fun _ ds => decide (uptoBulkAll ds ≤ 1048576)
def OpenSpec.upto (s : _root_.Go.ChangeSpec) : _root_.Go.OpenSpec := { _root_.Go.OpenSpec.ofChange s with cond := some uptoSmall }

/-- 'dragomanlaw15.CompileTexts', WHERE WHAT IT READS IS OF BULK AT MOST 1048576: true; the input reads as it did. -/
def compileTextsUptoRow : OpenClaim := { program := "ytiapnfgmddhbgaagreatdoor", sum := "edd96e1d99e5a5c46fc752f74e6785c7b3090917c800ca8b8b41f04afa3d0cc2", func := "dragoman/dragomanlaw15.CompileTexts", spec := "compileTexts", inPlace := ["internal/bytealg.IndexByteString", "internal/abi.NoEscape", "internal/bytealg.MakeNoZero"], unfollowed := true, recurses := true, named := ["internal/strconv.uint64pow10", "math/bits.deBruijn32tab", "math/bits.deBruijn64tab"], apart := false, laid := [("math/bits.deBruijn32tab", laid_math_bits_deBruijn32tab), ("math/bits.deBruijn64tab", laid_math_bits_deBruijn64tab), ("internal/strconv.uint64pow10", laid_internal_strconv_uint64pow10)], narrowed := true }
def CompileTextsUptoSaid : Prop := compileTextsUptoRow.holds Tryz.pinned (OpenSpec.upto compileTextsSpec)

/-- 'dragomanlaw15.CompileRights', WHERE WHAT IT READS IS OF BULK AT MOST 1048576: true; the input reads as it did. -/
def compileRightsUptoRow : OpenClaim := { program := "ytiapnfgmddhbgaagreatdoor", sum := "edd96e1d99e5a5c46fc752f74e6785c7b3090917c800ca8b8b41f04afa3d0cc2", func := "dragoman/dragomanlaw15.CompileRights", spec := "compileRights", inPlace := ["internal/bytealg.IndexByteString", "internal/abi.NoEscape", "internal/bytealg.MakeNoZero"], unfollowed := true, recurses := true, named := ["internal/strconv.uint64pow10", "math/bits.deBruijn32tab", "math/bits.deBruijn64tab"], apart := false, laid := [("math/bits.deBruijn32tab", laid_math_bits_deBruijn32tab), ("math/bits.deBruijn64tab", laid_math_bits_deBruijn64tab), ("internal/strconv.uint64pow10", laid_internal_strconv_uint64pow10)], narrowed := true }
def CompileRightsUptoSaid : Prop := compileRightsUptoRow.holds Tryz.pinned (OpenSpec.upto compileRightsSpec)

/-- 'dragomanlaw15.CompilePrints', WHERE WHAT IT READS IS OF BULK AT MOST 1048576: true; the input reads as it did. -/
def compilePrintsUptoRow : OpenClaim := { program := "ytiapnfgmddhbgaagreatdoor", sum := "edd96e1d99e5a5c46fc752f74e6785c7b3090917c800ca8b8b41f04afa3d0cc2", func := "dragoman/dragomanlaw15.CompilePrints", spec := "compilePrints", inPlace := ["internal/bytealg.IndexByteString", "internal/abi.NoEscape", "internal/bytealg.MakeNoZero"], unfollowed := true, recurses := true, named := ["internal/strconv.uint64pow10", "math/bits.deBruijn32tab", "math/bits.deBruijn64tab"], apart := false, laid := [("math/bits.deBruijn32tab", laid_math_bits_deBruijn32tab), ("math/bits.deBruijn64tab", laid_math_bits_deBruijn64tab), ("internal/strconv.uint64pow10", laid_internal_strconv_uint64pow10)], narrowed := true }
def CompilePrintsUptoSaid : Prop := compilePrintsUptoRow.holds Tryz.pinned (OpenSpec.upto compilePrintsSpec)

/-- 'dragomanlaw15.CompileBack', WHERE WHAT IT READS IS OF BULK AT MOST 1048576: true; the input reads as it did. -/
def compileBackUptoRow : OpenClaim := { program := "ytiapnfgmddhbgaagreatdoor", sum := "edd96e1d99e5a5c46fc752f74e6785c7b3090917c800ca8b8b41f04afa3d0cc2", func := "dragoman/dragomanlaw15.CompileBack", spec := "compileBack", inPlace := ["internal/bytealg.IndexByteString", "internal/abi.NoEscape", "internal/bytealg.MakeNoZero"], unfollowed := true, recurses := true, named := ["internal/strconv.uint64pow10", "math/bits.deBruijn32tab", "math/bits.deBruijn64tab"], apart := false, laid := [("math/bits.deBruijn32tab", laid_math_bits_deBruijn32tab), ("math/bits.deBruijn64tab", laid_math_bits_deBruijn64tab), ("internal/strconv.uint64pow10", laid_internal_strconv_uint64pow10)], narrowed := true }
def CompileBackUptoSaid : Prop := compileBackUptoRow.holds Tryz.pinned (OpenSpec.upto compileBackSpec)

/-- 'dragomanlaw15.CompileNames', WHERE WHAT IT READS IS OF BULK AT MOST 1048576: true; the input reads as it did. -/
def compileNamesUptoRow : OpenClaim := { program := "ytiapnfgmddhbgaagreatdoor", sum := "edd96e1d99e5a5c46fc752f74e6785c7b3090917c800ca8b8b41f04afa3d0cc2", func := "dragoman/dragomanlaw15.CompileNames", spec := "compileNames", inPlace := ["internal/bytealg.IndexByteString", "internal/abi.NoEscape", "internal/bytealg.MakeNoZero"], unfollowed := true, recurses := true, named := ["internal/strconv.uint64pow10", "math/bits.deBruijn32tab", "math/bits.deBruijn64tab"], apart := false, laid := [("math/bits.deBruijn32tab", laid_math_bits_deBruijn32tab), ("math/bits.deBruijn64tab", laid_math_bits_deBruijn64tab), ("internal/strconv.uint64pow10", laid_internal_strconv_uint64pow10)], narrowed := true }
def CompileNamesUptoSaid : Prop := compileNamesUptoRow.holds Tryz.pinned (OpenSpec.upto compileNamesSpec)

/-- 'dragomanlaw15.CompileLines', WHERE WHAT IT READS IS OF BULK AT MOST 1048576: true; the input reads as it did. -/
def compileLinesUptoRow : OpenClaim := { program := "ytiapnfgmddhbgaagreatdoor", sum := "edd96e1d99e5a5c46fc752f74e6785c7b3090917c800ca8b8b41f04afa3d0cc2", func := "dragoman/dragomanlaw15.CompileLines", spec := "compileLines", inPlace := ["internal/bytealg.IndexByteString", "internal/abi.NoEscape", "internal/bytealg.MakeNoZero"], unfollowed := true, recurses := true, named := ["internal/strconv.uint64pow10", "math/bits.deBruijn32tab", "math/bits.deBruijn64tab"], apart := false, laid := [("math/bits.deBruijn32tab", laid_math_bits_deBruijn32tab), ("math/bits.deBruijn64tab", laid_math_bits_deBruijn64tab), ("internal/strconv.uint64pow10", laid_internal_strconv_uint64pow10)], narrowed := true }
def CompileLinesUptoSaid : Prop := compileLinesUptoRow.holds Tryz.pinned (OpenSpec.upto compileLinesSpec)

/-- 'dragomanlaw15.CompileLimits', WHERE WHAT IT READS IS OF BULK AT MOST 1048576: true; the input reads as it did. -/
def compileLimitsUptoRow : OpenClaim := { program := "ytiapnfgmddhbgaagreatdoor", sum := "edd96e1d99e5a5c46fc752f74e6785c7b3090917c800ca8b8b41f04afa3d0cc2", func := "dragoman/dragomanlaw15.CompileLimits", spec := "compileLimits", inPlace := ["internal/bytealg.IndexByteString", "internal/abi.NoEscape", "internal/bytealg.MakeNoZero"], unfollowed := true, recurses := true, named := ["internal/strconv.uint64pow10", "math/bits.deBruijn32tab", "math/bits.deBruijn64tab"], apart := false, laid := [("math/bits.deBruijn32tab", laid_math_bits_deBruijn32tab), ("math/bits.deBruijn64tab", laid_math_bits_deBruijn64tab), ("internal/strconv.uint64pow10", laid_internal_strconv_uint64pow10)], narrowed := true }
def CompileLimitsUptoSaid : Prop := compileLimitsUptoRow.holds Tryz.pinned (OpenSpec.upto compileLimitsSpec)

end Rows
end Go.Proofs.YtiapnfgmddhbgaaGreatDoor
