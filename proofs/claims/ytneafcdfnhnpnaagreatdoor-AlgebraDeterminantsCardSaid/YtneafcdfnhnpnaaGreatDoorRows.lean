/-
  NARROWER THAN 'FOR EVERY INPUT', by the rows' own cells (each row's printed sentence says how): AlgebraNumbers: laid · AlgebraIntegers: laid · AlgebraPerms: laid · AlgebraRanks: laid · AlgebraMatrices: laid · AlgebraSolves: laid · AlgebraDeterminants: laid · AlgebraModulo: laid · AlgebraGroups: laid · AlgebraPlaces: laid · AlgebraNullSpaces: laid · AlgebraEquations: laid.
  DERIVED. THE GIVEN ROWS OF THIS SEAT. 12 by the template 'for every input the law returns true; each argument reads behind the call as it read before'; 0 by the template 'total and deterministic' (their statements: YtneafcdfnhnpnaaGreatDoorTotals.lean).
  GIVEN WITH THE SEED: the statements are not yours to turn. If you find one false, say at which input.
  Laid BY PROGRAM, IN A SANDBOX (cutbox-rows.mjs): the forced cells as the released guide's own fill.sh prints them over the translation a174c1936cbdf274… (all of the seat's roots in one cut). By AI agents, Wed Nov 11 2026. No macro, syntax, notation, axiom, sorry.
-/
import Derived.Test.YtneafcdfnhnpnaaGreatDoorChecked
import GoSem.Claim
import GoSem.ClaimJoined
import GoSem.ClaimMapViews
import Derived.JoinedTies
import Derived.KernelRfl
namespace Go.Proofs.YtneafcdfnhnpnaaGreatDoor
/- THE CELL 'sum', in the pinned program and in every row, IS THE sha256 OF THE DUMP (.gsa) THAT YtneafcdfnhnpnaaGreatDoorProg.lean LOADS. Nothing in Lean hashes anything: it is a label: what it is worth is what the hold of that sum in a sandbox is worth. -/
noncomputable def Tryz.pinned : Pinned := { name := "ytneafcdfnhnpnaagreatdoor", sum := "a174c1936cbdf27461b08457f92377a12f51e8b6c529b7bc8a5bbb54f15dde3e", checked := Tryz.checked }
namespace Rows
def none {H : Type} : Left H := { results := [], args := [] }

/- WHAT THE LISTED PACKAGE-LEVEL VARIABLES READ AS WHEN THE CALL BEGINS. Each datum BY PROGRAM (the guide's laid-datum.mjs) off the statement by which the dump's own 'gosem.cut.vars' lays the variable. In a bare row this is a premise. The card (YtneafcdfnhnpnaaGreatDoorCards.lean) ties it to the program's text. -/
def laid_math_bits_deBruijn32tab {H : Type} : DataW H := .agg [.lit (.int .u8 0), .lit (.int .u8 1), .lit (.int .u8 28), .lit (.int .u8 2), .lit (.int .u8 29), .lit (.int .u8 14), .lit (.int .u8 24), .lit (.int .u8 3), .lit (.int .u8 30), .lit (.int .u8 22), .lit (.int .u8 20), .lit (.int .u8 15), .lit (.int .u8 25), .lit (.int .u8 17), .lit (.int .u8 4), .lit (.int .u8 8), .lit (.int .u8 31), .lit (.int .u8 27), .lit (.int .u8 13), .lit (.int .u8 23), .lit (.int .u8 21), .lit (.int .u8 19), .lit (.int .u8 16), .lit (.int .u8 7), .lit (.int .u8 26), .lit (.int .u8 12), .lit (.int .u8 18), .lit (.int .u8 6), .lit (.int .u8 11), .lit (.int .u8 5), .lit (.int .u8 10), .lit (.int .u8 9)]
def laid_math_bits_deBruijn64tab {H : Type} : DataW H := .agg [.lit (.int .u8 0), .lit (.int .u8 1), .lit (.int .u8 56), .lit (.int .u8 2), .lit (.int .u8 57), .lit (.int .u8 49), .lit (.int .u8 28), .lit (.int .u8 3), .lit (.int .u8 61), .lit (.int .u8 58), .lit (.int .u8 42), .lit (.int .u8 50), .lit (.int .u8 38), .lit (.int .u8 29), .lit (.int .u8 17), .lit (.int .u8 4), .lit (.int .u8 62), .lit (.int .u8 47), .lit (.int .u8 59), .lit (.int .u8 36), .lit (.int .u8 45), .lit (.int .u8 43), .lit (.int .u8 51), .lit (.int .u8 22), .lit (.int .u8 53), .lit (.int .u8 39), .lit (.int .u8 33), .lit (.int .u8 30), .lit (.int .u8 24), .lit (.int .u8 18), .lit (.int .u8 12), .lit (.int .u8 5), .lit (.int .u8 63), .lit (.int .u8 55), .lit (.int .u8 48), .lit (.int .u8 27), .lit (.int .u8 60), .lit (.int .u8 41), .lit (.int .u8 37), .lit (.int .u8 16), .lit (.int .u8 46), .lit (.int .u8 35), .lit (.int .u8 44), .lit (.int .u8 21), .lit (.int .u8 52), .lit (.int .u8 32), .lit (.int .u8 23), .lit (.int .u8 11), .lit (.int .u8 54), .lit (.int .u8 26), .lit (.int .u8 40), .lit (.int .u8 15), .lit (.int .u8 34), .lit (.int .u8 20), .lit (.int .u8 31), .lit (.int .u8 10), .lit (.int .u8 25), .lit (.int .u8 14), .lit (.int .u8 19), .lit (.int .u8 9), .lit (.int .u8 13), .lit (.int .u8 8), .lit (.int .u8 7), .lit (.int .u8 6)]
def laid_internal_strconv_uint64pow10 {H : Type} : DataW H := .agg [.lit (.int .u64 1), .lit (.int .u64 10), .lit (.int .u64 100), .lit (.int .u64 1000), .lit (.int .u64 10000), .lit (.int .u64 100000), .lit (.int .u64 1000000), .lit (.int .u64 10000000), .lit (.int .u64 100000000), .lit (.int .u64 1000000000), .lit (.int .u64 10000000000), .lit (.int .u64 100000000000), .lit (.int .u64 1000000000000), .lit (.int .u64 10000000000000), .lit (.int .u64 100000000000000), .lit (.int .u64 1000000000000000), .lit (.int .u64 10000000000000000), .lit (.int .u64 100000000000000000), .lit (.int .u64 1000000000000000000), .lit (.int .u64 10000000000000000000)]
def laid_strconv_ErrRange {H : Type} : DataW H := .iface "*errors.errorString" (.ptr (.agg [.lit (.string [118, 97, 108, 117, 101, 32, 111, 117, 116, 32, 111, 102, 32, 114, 97, 110, 103, 101])]))
def laid_strconv_ErrSyntax {H : Type} : DataW H := .iface "*errors.errorString" (.ptr (.agg [.lit (.string [105, 110, 118, 97, 108, 105, 100, 32, 115, 121, 110, 116, 97, 120])]))

/-- 'talismanlaw01.AlgebraNumbers': WHATEVER THE INPUT: true; the input reads as it did. -/
def algebraNumbersSpec : ChangeSpec := { name := "algebraNumbers", fn := fun _ => fun
  | [d1, d2] => { results := [.lit (.bool true)], args := [d1, d2] }
  | _ => none }
def algebraNumbersRow : OpenClaim := { program := "ytneafcdfnhnpnaagreatdoor", sum := "a174c1936cbdf27461b08457f92377a12f51e8b6c529b7bc8a5bbb54f15dde3e", func := "talisman/talismanlaw01.AlgebraNumbers", spec := "algebraNumbers", inPlace := ["math/bits.Add64", "math/bits.Sub64", "internal/abi.NoEscape", "internal/bytealg.MakeNoZero", "internal/bytealg.IndexByteString", "internal/bytealg.IndexString"], unfollowed := true, recurses := true, named := ["math/bits.divideError", "math/bits.overflowError", "internal/strconv.uint64pow10", "math/bits.deBruijn32tab", "math/bits.deBruijn64tab", "internal/bytealg.MaxLen", "strconv.ErrSyntax", "strconv.ErrRange"], apart := false, laid := [("math/bits.deBruijn32tab", laid_math_bits_deBruijn32tab), ("math/bits.deBruijn64tab", laid_math_bits_deBruijn64tab), ("internal/strconv.uint64pow10", laid_internal_strconv_uint64pow10), ("strconv.ErrRange", laid_strconv_ErrRange), ("strconv.ErrSyntax", laid_strconv_ErrSyntax)] }
def AlgebraNumbersSaid : Prop := algebraNumbersRow.holds Tryz.pinned (OpenSpec.ofChange algebraNumbersSpec)

/-- ITS FALSE NEIGHBOUR: 'it returns false'. Refute it at one input. -/
def algebraNumbersWrong : ChangeSpec := { name := "algebraNumbers", fn := fun _ => fun
  | [d1, d2] => { results := [.lit (.bool false)], args := [d1, d2] }
  | _ => none }
def AlgebraNumbersWrongFalsely : Prop := algebraNumbersRow.holds Tryz.pinned (OpenSpec.ofChange algebraNumbersWrong)

/-- 'talismanlaw01.AlgebraIntegers': WHATEVER THE INPUT: true; the input reads as it did. -/
def algebraIntegersSpec : ChangeSpec := { name := "algebraIntegers", fn := fun _ => fun
  | [d1, d2, d3] => { results := [.lit (.bool true)], args := [d1, d2, d3] }
  | _ => none }
def algebraIntegersRow : OpenClaim := { program := "ytneafcdfnhnpnaagreatdoor", sum := "a174c1936cbdf27461b08457f92377a12f51e8b6c529b7bc8a5bbb54f15dde3e", func := "talisman/talismanlaw01.AlgebraIntegers", spec := "algebraIntegers", inPlace := ["math/bits.Add64", "math/bits.Sub64", "internal/abi.NoEscape", "internal/bytealg.MakeNoZero", "internal/bytealg.IndexByteString", "internal/bytealg.IndexString"], unfollowed := true, recurses := true, named := ["math/bits.divideError", "math/bits.overflowError", "internal/strconv.uint64pow10", "math/bits.deBruijn32tab", "math/bits.deBruijn64tab", "internal/bytealg.MaxLen", "strconv.ErrSyntax", "strconv.ErrRange"], apart := false, laid := [("math/bits.deBruijn32tab", laid_math_bits_deBruijn32tab), ("math/bits.deBruijn64tab", laid_math_bits_deBruijn64tab), ("internal/strconv.uint64pow10", laid_internal_strconv_uint64pow10), ("strconv.ErrRange", laid_strconv_ErrRange), ("strconv.ErrSyntax", laid_strconv_ErrSyntax)] }
def AlgebraIntegersSaid : Prop := algebraIntegersRow.holds Tryz.pinned (OpenSpec.ofChange algebraIntegersSpec)

/-- ITS FALSE NEIGHBOUR: 'it returns false'. Refute it at one input. -/
def algebraIntegersWrong : ChangeSpec := { name := "algebraIntegers", fn := fun _ => fun
  | [d1, d2, d3] => { results := [.lit (.bool false)], args := [d1, d2, d3] }
  | _ => none }
def AlgebraIntegersWrongFalsely : Prop := algebraIntegersRow.holds Tryz.pinned (OpenSpec.ofChange algebraIntegersWrong)

/-- 'talismanlaw01.AlgebraPerms': WHATEVER THE INPUT: true; the input reads as it did. -/
def algebraPermsSpec : ChangeSpec := { name := "algebraPerms", fn := fun _ => fun
  | [d1, d2, d3] => { results := [.lit (.bool true)], args := [d1, d2, d3] }
  | _ => none }
def algebraPermsRow : OpenClaim := { program := "ytneafcdfnhnpnaagreatdoor", sum := "a174c1936cbdf27461b08457f92377a12f51e8b6c529b7bc8a5bbb54f15dde3e", func := "talisman/talismanlaw01.AlgebraPerms", spec := "algebraPerms", inPlace := ["math/bits.Add64", "math/bits.Sub64", "internal/abi.NoEscape", "internal/bytealg.MakeNoZero", "internal/bytealg.IndexByteString", "internal/bytealg.IndexString"], unfollowed := true, recurses := true, named := ["math/bits.divideError", "math/bits.overflowError", "internal/strconv.uint64pow10", "math/bits.deBruijn32tab", "math/bits.deBruijn64tab", "internal/bytealg.MaxLen", "strconv.ErrSyntax", "strconv.ErrRange"], apart := false, laid := [("math/bits.deBruijn32tab", laid_math_bits_deBruijn32tab), ("math/bits.deBruijn64tab", laid_math_bits_deBruijn64tab), ("internal/strconv.uint64pow10", laid_internal_strconv_uint64pow10), ("strconv.ErrRange", laid_strconv_ErrRange), ("strconv.ErrSyntax", laid_strconv_ErrSyntax)] }
def AlgebraPermsSaid : Prop := algebraPermsRow.holds Tryz.pinned (OpenSpec.ofChange algebraPermsSpec)

/-- ITS FALSE NEIGHBOUR: 'it returns false'. Refute it at one input. -/
def algebraPermsWrong : ChangeSpec := { name := "algebraPerms", fn := fun _ => fun
  | [d1, d2, d3] => { results := [.lit (.bool false)], args := [d1, d2, d3] }
  | _ => none }
def AlgebraPermsWrongFalsely : Prop := algebraPermsRow.holds Tryz.pinned (OpenSpec.ofChange algebraPermsWrong)

/-- 'talismanlaw01.AlgebraRanks': WHATEVER THE INPUT: true; the input reads as it did. -/
def algebraRanksSpec : ChangeSpec := { name := "algebraRanks", fn := fun _ => fun
  | [d1, d2, d3] => { results := [.lit (.bool true)], args := [d1, d2, d3] }
  | _ => none }
def algebraRanksRow : OpenClaim := { program := "ytneafcdfnhnpnaagreatdoor", sum := "a174c1936cbdf27461b08457f92377a12f51e8b6c529b7bc8a5bbb54f15dde3e", func := "talisman/talismanlaw01.AlgebraRanks", spec := "algebraRanks", inPlace := ["math/bits.Add64", "math/bits.Sub64", "internal/abi.NoEscape", "internal/bytealg.MakeNoZero", "internal/bytealg.IndexByteString", "internal/bytealg.IndexString"], unfollowed := true, recurses := true, named := ["math/bits.divideError", "math/bits.overflowError", "internal/strconv.uint64pow10", "math/bits.deBruijn32tab", "math/bits.deBruijn64tab", "internal/bytealg.MaxLen", "strconv.ErrSyntax", "strconv.ErrRange"], apart := false, laid := [("math/bits.deBruijn32tab", laid_math_bits_deBruijn32tab), ("math/bits.deBruijn64tab", laid_math_bits_deBruijn64tab), ("internal/strconv.uint64pow10", laid_internal_strconv_uint64pow10), ("strconv.ErrRange", laid_strconv_ErrRange), ("strconv.ErrSyntax", laid_strconv_ErrSyntax)] }
def AlgebraRanksSaid : Prop := algebraRanksRow.holds Tryz.pinned (OpenSpec.ofChange algebraRanksSpec)

/-- ITS FALSE NEIGHBOUR: 'it returns false'. Refute it at one input. -/
def algebraRanksWrong : ChangeSpec := { name := "algebraRanks", fn := fun _ => fun
  | [d1, d2, d3] => { results := [.lit (.bool false)], args := [d1, d2, d3] }
  | _ => none }
def AlgebraRanksWrongFalsely : Prop := algebraRanksRow.holds Tryz.pinned (OpenSpec.ofChange algebraRanksWrong)

/-- 'talismanlaw01.AlgebraMatrices': WHATEVER THE INPUT: true; the input reads as it did. -/
def algebraMatricesSpec : ChangeSpec := { name := "algebraMatrices", fn := fun _ => fun
  | [d] => { results := [.lit (.bool true)], args := [d] }
  | _ => none }
def algebraMatricesRow : OpenClaim := { program := "ytneafcdfnhnpnaagreatdoor", sum := "a174c1936cbdf27461b08457f92377a12f51e8b6c529b7bc8a5bbb54f15dde3e", func := "talisman/talismanlaw01.AlgebraMatrices", spec := "algebraMatrices", inPlace := ["math/bits.Add64", "math/bits.Sub64", "internal/abi.NoEscape", "internal/bytealg.MakeNoZero", "internal/bytealg.IndexByteString", "internal/bytealg.IndexString"], unfollowed := true, recurses := true, named := ["math/bits.divideError", "math/bits.overflowError", "internal/strconv.uint64pow10", "math/bits.deBruijn32tab", "math/bits.deBruijn64tab", "internal/bytealg.MaxLen", "strconv.ErrSyntax", "strconv.ErrRange"], apart := false, laid := [("math/bits.deBruijn32tab", laid_math_bits_deBruijn32tab), ("math/bits.deBruijn64tab", laid_math_bits_deBruijn64tab), ("internal/strconv.uint64pow10", laid_internal_strconv_uint64pow10), ("strconv.ErrRange", laid_strconv_ErrRange), ("strconv.ErrSyntax", laid_strconv_ErrSyntax)] }
def AlgebraMatricesSaid : Prop := algebraMatricesRow.holds Tryz.pinned (OpenSpec.ofChange algebraMatricesSpec)

/-- ITS FALSE NEIGHBOUR: 'it returns false'. Refute it at one input. -/
def algebraMatricesWrong : ChangeSpec := { name := "algebraMatrices", fn := fun _ => fun
  | [d] => { results := [.lit (.bool false)], args := [d] }
  | _ => none }
def AlgebraMatricesWrongFalsely : Prop := algebraMatricesRow.holds Tryz.pinned (OpenSpec.ofChange algebraMatricesWrong)

/-- 'talismanlaw01.AlgebraSolves': WHATEVER THE INPUT: true; the input reads as it did. -/
def algebraSolvesSpec : ChangeSpec := { name := "algebraSolves", fn := fun _ => fun
  | [d1, d2, d3] => { results := [.lit (.bool true)], args := [d1, d2, d3] }
  | _ => none }
def algebraSolvesRow : OpenClaim := { program := "ytneafcdfnhnpnaagreatdoor", sum := "a174c1936cbdf27461b08457f92377a12f51e8b6c529b7bc8a5bbb54f15dde3e", func := "talisman/talismanlaw01.AlgebraSolves", spec := "algebraSolves", inPlace := ["math/bits.Add64", "math/bits.Sub64", "internal/abi.NoEscape", "internal/bytealg.MakeNoZero", "internal/bytealg.IndexByteString", "internal/bytealg.IndexString"], unfollowed := true, recurses := true, named := ["math/bits.divideError", "math/bits.overflowError", "internal/strconv.uint64pow10", "math/bits.deBruijn32tab", "math/bits.deBruijn64tab", "internal/bytealg.MaxLen", "strconv.ErrSyntax", "strconv.ErrRange"], apart := false, laid := [("math/bits.deBruijn32tab", laid_math_bits_deBruijn32tab), ("math/bits.deBruijn64tab", laid_math_bits_deBruijn64tab), ("internal/strconv.uint64pow10", laid_internal_strconv_uint64pow10), ("strconv.ErrRange", laid_strconv_ErrRange), ("strconv.ErrSyntax", laid_strconv_ErrSyntax)] }
def AlgebraSolvesSaid : Prop := algebraSolvesRow.holds Tryz.pinned (OpenSpec.ofChange algebraSolvesSpec)

/-- ITS FALSE NEIGHBOUR: 'it returns false'. Refute it at one input. -/
def algebraSolvesWrong : ChangeSpec := { name := "algebraSolves", fn := fun _ => fun
  | [d1, d2, d3] => { results := [.lit (.bool false)], args := [d1, d2, d3] }
  | _ => none }
def AlgebraSolvesWrongFalsely : Prop := algebraSolvesRow.holds Tryz.pinned (OpenSpec.ofChange algebraSolvesWrong)

/-- 'talismanlaw01.AlgebraDeterminants': WHATEVER THE INPUT: true; the input reads as it did. -/
def algebraDeterminantsSpec : ChangeSpec := { name := "algebraDeterminants", fn := fun _ => fun
  | [d] => { results := [.lit (.bool true)], args := [d] }
  | _ => none }
def algebraDeterminantsRow : OpenClaim := { program := "ytneafcdfnhnpnaagreatdoor", sum := "a174c1936cbdf27461b08457f92377a12f51e8b6c529b7bc8a5bbb54f15dde3e", func := "talisman/talismanlaw01.AlgebraDeterminants", spec := "algebraDeterminants", inPlace := ["math/bits.Add64", "math/bits.Sub64", "internal/abi.NoEscape", "internal/bytealg.MakeNoZero", "internal/bytealg.IndexByteString", "internal/bytealg.IndexString"], unfollowed := true, recurses := true, named := ["math/bits.divideError", "math/bits.overflowError", "internal/strconv.uint64pow10", "math/bits.deBruijn32tab", "math/bits.deBruijn64tab", "internal/bytealg.MaxLen", "strconv.ErrSyntax", "strconv.ErrRange"], apart := false, laid := [("math/bits.deBruijn32tab", laid_math_bits_deBruijn32tab), ("math/bits.deBruijn64tab", laid_math_bits_deBruijn64tab), ("internal/strconv.uint64pow10", laid_internal_strconv_uint64pow10), ("strconv.ErrRange", laid_strconv_ErrRange), ("strconv.ErrSyntax", laid_strconv_ErrSyntax)] }
def AlgebraDeterminantsSaid : Prop := algebraDeterminantsRow.holds Tryz.pinned (OpenSpec.ofChange algebraDeterminantsSpec)

/-- ITS FALSE NEIGHBOUR: 'it returns false'. Refute it at one input. -/
def algebraDeterminantsWrong : ChangeSpec := { name := "algebraDeterminants", fn := fun _ => fun
  | [d] => { results := [.lit (.bool false)], args := [d] }
  | _ => none }
def AlgebraDeterminantsWrongFalsely : Prop := algebraDeterminantsRow.holds Tryz.pinned (OpenSpec.ofChange algebraDeterminantsWrong)

/-- 'talismanlaw01.AlgebraModulo': WHATEVER THE INPUT: true; the input reads as it did. -/
def algebraModuloSpec : ChangeSpec := { name := "algebraModulo", fn := fun _ => fun
  | [d1, d2] => { results := [.lit (.bool true)], args := [d1, d2] }
  | _ => none }
def algebraModuloRow : OpenClaim := { program := "ytneafcdfnhnpnaagreatdoor", sum := "a174c1936cbdf27461b08457f92377a12f51e8b6c529b7bc8a5bbb54f15dde3e", func := "talisman/talismanlaw01.AlgebraModulo", spec := "algebraModulo", inPlace := ["math/bits.Add64", "math/bits.Sub64", "internal/abi.NoEscape", "internal/bytealg.MakeNoZero", "internal/bytealg.IndexByteString", "internal/bytealg.IndexString"], unfollowed := true, recurses := true, named := ["math/bits.divideError", "math/bits.overflowError", "internal/strconv.uint64pow10", "math/bits.deBruijn32tab", "math/bits.deBruijn64tab", "internal/bytealg.MaxLen", "strconv.ErrSyntax", "strconv.ErrRange"], apart := false, laid := [("math/bits.deBruijn32tab", laid_math_bits_deBruijn32tab), ("math/bits.deBruijn64tab", laid_math_bits_deBruijn64tab), ("internal/strconv.uint64pow10", laid_internal_strconv_uint64pow10), ("strconv.ErrRange", laid_strconv_ErrRange), ("strconv.ErrSyntax", laid_strconv_ErrSyntax)] }
def AlgebraModuloSaid : Prop := algebraModuloRow.holds Tryz.pinned (OpenSpec.ofChange algebraModuloSpec)

/-- ITS FALSE NEIGHBOUR: 'it returns false'. Refute it at one input. -/
def algebraModuloWrong : ChangeSpec := { name := "algebraModulo", fn := fun _ => fun
  | [d1, d2] => { results := [.lit (.bool false)], args := [d1, d2] }
  | _ => none }
def AlgebraModuloWrongFalsely : Prop := algebraModuloRow.holds Tryz.pinned (OpenSpec.ofChange algebraModuloWrong)

/-- 'talismanlaw01.AlgebraGroups': WHATEVER THE INPUT: true; the input reads as it did. -/
def algebraGroupsSpec : ChangeSpec := { name := "algebraGroups", fn := fun _ => fun
  | [d1, d2, d3] => { results := [.lit (.bool true)], args := [d1, d2, d3] }
  | _ => none }
def algebraGroupsRow : OpenClaim := { program := "ytneafcdfnhnpnaagreatdoor", sum := "a174c1936cbdf27461b08457f92377a12f51e8b6c529b7bc8a5bbb54f15dde3e", func := "talisman/talismanlaw01.AlgebraGroups", spec := "algebraGroups", inPlace := ["math/bits.Add64", "math/bits.Sub64", "internal/abi.NoEscape", "internal/bytealg.MakeNoZero", "internal/bytealg.IndexByteString", "internal/bytealg.IndexString"], unfollowed := true, recurses := true, named := ["math/bits.divideError", "math/bits.overflowError", "internal/strconv.uint64pow10", "math/bits.deBruijn32tab", "math/bits.deBruijn64tab", "internal/bytealg.MaxLen", "strconv.ErrSyntax", "strconv.ErrRange"], apart := false, laid := [("math/bits.deBruijn32tab", laid_math_bits_deBruijn32tab), ("math/bits.deBruijn64tab", laid_math_bits_deBruijn64tab), ("internal/strconv.uint64pow10", laid_internal_strconv_uint64pow10), ("strconv.ErrRange", laid_strconv_ErrRange), ("strconv.ErrSyntax", laid_strconv_ErrSyntax)] }
def AlgebraGroupsSaid : Prop := algebraGroupsRow.holds Tryz.pinned (OpenSpec.ofChange algebraGroupsSpec)

/-- ITS FALSE NEIGHBOUR: 'it returns false'. Refute it at one input. -/
def algebraGroupsWrong : ChangeSpec := { name := "algebraGroups", fn := fun _ => fun
  | [d1, d2, d3] => { results := [.lit (.bool false)], args := [d1, d2, d3] }
  | _ => none }
def AlgebraGroupsWrongFalsely : Prop := algebraGroupsRow.holds Tryz.pinned (OpenSpec.ofChange algebraGroupsWrong)

/-- 'talismanlaw01.AlgebraPlaces': WHATEVER THE INPUT: true; the input reads as it did. -/
def algebraPlacesSpec : ChangeSpec := { name := "algebraPlaces", fn := fun _ => fun
  | [d1, d2] => { results := [.lit (.bool true)], args := [d1, d2] }
  | _ => none }
def algebraPlacesRow : OpenClaim := { program := "ytneafcdfnhnpnaagreatdoor", sum := "a174c1936cbdf27461b08457f92377a12f51e8b6c529b7bc8a5bbb54f15dde3e", func := "talisman/talismanlaw01.AlgebraPlaces", spec := "algebraPlaces", inPlace := ["math/bits.Add64", "math/bits.Sub64", "internal/abi.NoEscape", "internal/bytealg.MakeNoZero", "internal/bytealg.IndexByteString", "internal/bytealg.IndexString"], unfollowed := true, recurses := true, named := ["math/bits.divideError", "math/bits.overflowError", "internal/strconv.uint64pow10", "math/bits.deBruijn32tab", "math/bits.deBruijn64tab", "internal/bytealg.MaxLen", "strconv.ErrSyntax", "strconv.ErrRange"], apart := false, laid := [("math/bits.deBruijn32tab", laid_math_bits_deBruijn32tab), ("math/bits.deBruijn64tab", laid_math_bits_deBruijn64tab), ("internal/strconv.uint64pow10", laid_internal_strconv_uint64pow10), ("strconv.ErrRange", laid_strconv_ErrRange), ("strconv.ErrSyntax", laid_strconv_ErrSyntax)] }
def AlgebraPlacesSaid : Prop := algebraPlacesRow.holds Tryz.pinned (OpenSpec.ofChange algebraPlacesSpec)

/-- ITS FALSE NEIGHBOUR: 'it returns false'. Refute it at one input. -/
def algebraPlacesWrong : ChangeSpec := { name := "algebraPlaces", fn := fun _ => fun
  | [d1, d2] => { results := [.lit (.bool false)], args := [d1, d2] }
  | _ => none }
def AlgebraPlacesWrongFalsely : Prop := algebraPlacesRow.holds Tryz.pinned (OpenSpec.ofChange algebraPlacesWrong)

/-- 'talismanlaw01.AlgebraNullSpaces': WHATEVER THE INPUT: true; the input reads as it did. -/
def algebraNullSpacesSpec : ChangeSpec := { name := "algebraNullSpaces", fn := fun _ => fun
  | [d1, d2, d3] => { results := [.lit (.bool true)], args := [d1, d2, d3] }
  | _ => none }
def algebraNullSpacesRow : OpenClaim := { program := "ytneafcdfnhnpnaagreatdoor", sum := "a174c1936cbdf27461b08457f92377a12f51e8b6c529b7bc8a5bbb54f15dde3e", func := "talisman/talismanlaw01.AlgebraNullSpaces", spec := "algebraNullSpaces", inPlace := ["math/bits.Add64", "math/bits.Sub64", "internal/abi.NoEscape", "internal/bytealg.MakeNoZero", "internal/bytealg.IndexByteString", "internal/bytealg.IndexString"], unfollowed := true, recurses := true, named := ["math/bits.divideError", "math/bits.overflowError", "internal/strconv.uint64pow10", "math/bits.deBruijn32tab", "math/bits.deBruijn64tab", "internal/bytealg.MaxLen", "strconv.ErrSyntax", "strconv.ErrRange"], apart := false, laid := [("math/bits.deBruijn32tab", laid_math_bits_deBruijn32tab), ("math/bits.deBruijn64tab", laid_math_bits_deBruijn64tab), ("internal/strconv.uint64pow10", laid_internal_strconv_uint64pow10), ("strconv.ErrRange", laid_strconv_ErrRange), ("strconv.ErrSyntax", laid_strconv_ErrSyntax)] }
def AlgebraNullSpacesSaid : Prop := algebraNullSpacesRow.holds Tryz.pinned (OpenSpec.ofChange algebraNullSpacesSpec)

/-- ITS FALSE NEIGHBOUR: 'it returns false'. Refute it at one input. -/
def algebraNullSpacesWrong : ChangeSpec := { name := "algebraNullSpaces", fn := fun _ => fun
  | [d1, d2, d3] => { results := [.lit (.bool false)], args := [d1, d2, d3] }
  | _ => none }
def AlgebraNullSpacesWrongFalsely : Prop := algebraNullSpacesRow.holds Tryz.pinned (OpenSpec.ofChange algebraNullSpacesWrong)

/-- 'talismanlaw01.AlgebraEquations': WHATEVER THE INPUT: true; the input reads as it did. -/
def algebraEquationsSpec : ChangeSpec := { name := "algebraEquations", fn := fun _ => fun
  | [d1, d2, d3] => { results := [.lit (.bool true)], args := [d1, d2, d3] }
  | _ => none }
def algebraEquationsRow : OpenClaim := { program := "ytneafcdfnhnpnaagreatdoor", sum := "a174c1936cbdf27461b08457f92377a12f51e8b6c529b7bc8a5bbb54f15dde3e", func := "talisman/talismanlaw01.AlgebraEquations", spec := "algebraEquations", inPlace := ["math/bits.Add64", "math/bits.Sub64", "internal/abi.NoEscape", "internal/bytealg.MakeNoZero", "internal/bytealg.IndexByteString", "internal/bytealg.IndexString"], unfollowed := true, recurses := true, named := ["math/bits.divideError", "math/bits.overflowError", "internal/strconv.uint64pow10", "math/bits.deBruijn32tab", "math/bits.deBruijn64tab", "internal/bytealg.MaxLen", "strconv.ErrSyntax", "strconv.ErrRange"], apart := false, laid := [("math/bits.deBruijn32tab", laid_math_bits_deBruijn32tab), ("math/bits.deBruijn64tab", laid_math_bits_deBruijn64tab), ("internal/strconv.uint64pow10", laid_internal_strconv_uint64pow10), ("strconv.ErrRange", laid_strconv_ErrRange), ("strconv.ErrSyntax", laid_strconv_ErrSyntax)] }
def AlgebraEquationsSaid : Prop := algebraEquationsRow.holds Tryz.pinned (OpenSpec.ofChange algebraEquationsSpec)

/-- ITS FALSE NEIGHBOUR: 'it returns false'. Refute it at one input. -/
def algebraEquationsWrong : ChangeSpec := { name := "algebraEquations", fn := fun _ => fun
  | [d1, d2, d3] => { results := [.lit (.bool false)], args := [d1, d2, d3] }
  | _ => none }
def AlgebraEquationsWrongFalsely : Prop := algebraEquationsRow.holds Tryz.pinned (OpenSpec.ofChange algebraEquationsWrong)

/- THE SECOND FORM. 'bulk': how many values and letters a reading holds, each counted each time it is reached (what is shared counts as often as it is met; a slice's spare places count too). A statement '..UptoSaid' is the law's where the arguments, and the package variables that the reading takes, are together of bulk at most 1048576: NARROWER than '..Said'. Prove '..Said' where nothing that the law and all that it calls make is longer than what came in: it says more and counts as full. Else prove '..UptoSaid'. A law counts once. -/
mutual
def uptoBulk {H : Type} : DataW H → Nat
  | .lit (.string bytes) => bytes.length + 1
  | .lit _ => 1
  | .nil => 1
  | .ptr d => uptoBulk d + 1
  | .slice elems spare => uptoBulkAll elems + uptoBulkAll spare + 1
  | .agg parts => uptoBulkAll parts + 1
  | .iface _ d => uptoBulk d + 1
  | .map entries => uptoBulkEntries entries + 1
  | .held _ => 1
def uptoBulkAll {H : Type} : List (DataW H) → Nat
  | [] => 0
  | d :: r => uptoBulk d + uptoBulkAll r
def uptoBulkEntries {H : Type} : List (Lit × DataW H) → Nat
  | [] => 0
  | x :: r => uptoBulkEntry x + uptoBulkEntries r
def uptoBulkEntry {H : Type} : Lit × DataW H → Nat
  | (.string bytes, d) => bytes.length + uptoBulk d + 1
  | (_, d) => uptoBulk d + 1
 end
def uptoSmall : (H : Type) → List (DataW H) → Bool := fun _ ds => decide (uptoBulkAll ds ≤ 1048576)
def OpenSpec.upto (s : _root_.Go.ChangeSpec) : _root_.Go.OpenSpec := { _root_.Go.OpenSpec.ofChange s with cond := some uptoSmall }

/-- 'talismanlaw01.AlgebraNumbers', WHERE WHAT IT READS IS OF BULK AT MOST 1048576: true; the input reads as it did. -/
def algebraNumbersUptoRow : OpenClaim := { program := "ytneafcdfnhnpnaagreatdoor", sum := "a174c1936cbdf27461b08457f92377a12f51e8b6c529b7bc8a5bbb54f15dde3e", func := "talisman/talismanlaw01.AlgebraNumbers", spec := "algebraNumbers", inPlace := ["math/bits.Add64", "math/bits.Sub64", "internal/abi.NoEscape", "internal/bytealg.MakeNoZero", "internal/bytealg.IndexByteString", "internal/bytealg.IndexString"], unfollowed := true, recurses := true, named := ["math/bits.divideError", "math/bits.overflowError", "internal/strconv.uint64pow10", "math/bits.deBruijn32tab", "math/bits.deBruijn64tab", "internal/bytealg.MaxLen", "strconv.ErrSyntax", "strconv.ErrRange"], apart := false, laid := [("math/bits.deBruijn32tab", laid_math_bits_deBruijn32tab), ("math/bits.deBruijn64tab", laid_math_bits_deBruijn64tab), ("internal/strconv.uint64pow10", laid_internal_strconv_uint64pow10), ("strconv.ErrRange", laid_strconv_ErrRange), ("strconv.ErrSyntax", laid_strconv_ErrSyntax)], narrowed := true }
def AlgebraNumbersUptoSaid : Prop := algebraNumbersUptoRow.holds Tryz.pinned (OpenSpec.upto algebraNumbersSpec)

/-- 'talismanlaw01.AlgebraIntegers', WHERE WHAT IT READS IS OF BULK AT MOST 1048576: true; the input reads as it did. -/
def algebraIntegersUptoRow : OpenClaim := { program := "ytneafcdfnhnpnaagreatdoor", sum := "a174c1936cbdf27461b08457f92377a12f51e8b6c529b7bc8a5bbb54f15dde3e", func := "talisman/talismanlaw01.AlgebraIntegers", spec := "algebraIntegers", inPlace := ["math/bits.Add64", "math/bits.Sub64", "internal/abi.NoEscape", "internal/bytealg.MakeNoZero", "internal/bytealg.IndexByteString", "internal/bytealg.IndexString"], unfollowed := true, recurses := true, named := ["math/bits.divideError", "math/bits.overflowError", "internal/strconv.uint64pow10", "math/bits.deBruijn32tab", "math/bits.deBruijn64tab", "internal/bytealg.MaxLen", "strconv.ErrSyntax", "strconv.ErrRange"], apart := false, laid := [("math/bits.deBruijn32tab", laid_math_bits_deBruijn32tab), ("math/bits.deBruijn64tab", laid_math_bits_deBruijn64tab), ("internal/strconv.uint64pow10", laid_internal_strconv_uint64pow10), ("strconv.ErrRange", laid_strconv_ErrRange), ("strconv.ErrSyntax", laid_strconv_ErrSyntax)], narrowed := true }
def AlgebraIntegersUptoSaid : Prop := algebraIntegersUptoRow.holds Tryz.pinned (OpenSpec.upto algebraIntegersSpec)

/-- 'talismanlaw01.AlgebraPerms', WHERE WHAT IT READS IS OF BULK AT MOST 1048576: true; the input reads as it did. -/
def algebraPermsUptoRow : OpenClaim := { program := "ytneafcdfnhnpnaagreatdoor", sum := "a174c1936cbdf27461b08457f92377a12f51e8b6c529b7bc8a5bbb54f15dde3e", func := "talisman/talismanlaw01.AlgebraPerms", spec := "algebraPerms", inPlace := ["math/bits.Add64", "math/bits.Sub64", "internal/abi.NoEscape", "internal/bytealg.MakeNoZero", "internal/bytealg.IndexByteString", "internal/bytealg.IndexString"], unfollowed := true, recurses := true, named := ["math/bits.divideError", "math/bits.overflowError", "internal/strconv.uint64pow10", "math/bits.deBruijn32tab", "math/bits.deBruijn64tab", "internal/bytealg.MaxLen", "strconv.ErrSyntax", "strconv.ErrRange"], apart := false, laid := [("math/bits.deBruijn32tab", laid_math_bits_deBruijn32tab), ("math/bits.deBruijn64tab", laid_math_bits_deBruijn64tab), ("internal/strconv.uint64pow10", laid_internal_strconv_uint64pow10), ("strconv.ErrRange", laid_strconv_ErrRange), ("strconv.ErrSyntax", laid_strconv_ErrSyntax)], narrowed := true }
def AlgebraPermsUptoSaid : Prop := algebraPermsUptoRow.holds Tryz.pinned (OpenSpec.upto algebraPermsSpec)

/-- 'talismanlaw01.AlgebraRanks', WHERE WHAT IT READS IS OF BULK AT MOST 1048576: true; the input reads as it did. -/
def algebraRanksUptoRow : OpenClaim := { program := "ytneafcdfnhnpnaagreatdoor", sum := "a174c1936cbdf27461b08457f92377a12f51e8b6c529b7bc8a5bbb54f15dde3e", func := "talisman/talismanlaw01.AlgebraRanks", spec := "algebraRanks", inPlace := ["math/bits.Add64", "math/bits.Sub64", "internal/abi.NoEscape", "internal/bytealg.MakeNoZero", "internal/bytealg.IndexByteString", "internal/bytealg.IndexString"], unfollowed := true, recurses := true, named := ["math/bits.divideError", "math/bits.overflowError", "internal/strconv.uint64pow10", "math/bits.deBruijn32tab", "math/bits.deBruijn64tab", "internal/bytealg.MaxLen", "strconv.ErrSyntax", "strconv.ErrRange"], apart := false, laid := [("math/bits.deBruijn32tab", laid_math_bits_deBruijn32tab), ("math/bits.deBruijn64tab", laid_math_bits_deBruijn64tab), ("internal/strconv.uint64pow10", laid_internal_strconv_uint64pow10), ("strconv.ErrRange", laid_strconv_ErrRange), ("strconv.ErrSyntax", laid_strconv_ErrSyntax)], narrowed := true }
def AlgebraRanksUptoSaid : Prop := algebraRanksUptoRow.holds Tryz.pinned (OpenSpec.upto algebraRanksSpec)

/-- 'talismanlaw01.AlgebraMatrices', WHERE WHAT IT READS IS OF BULK AT MOST 1048576: true; the input reads as it did. -/
def algebraMatricesUptoRow : OpenClaim := { program := "ytneafcdfnhnpnaagreatdoor", sum := "a174c1936cbdf27461b08457f92377a12f51e8b6c529b7bc8a5bbb54f15dde3e", func := "talisman/talismanlaw01.AlgebraMatrices", spec := "algebraMatrices", inPlace := ["math/bits.Add64", "math/bits.Sub64", "internal/abi.NoEscape", "internal/bytealg.MakeNoZero", "internal/bytealg.IndexByteString", "internal/bytealg.IndexString"], unfollowed := true, recurses := true, named := ["math/bits.divideError", "math/bits.overflowError", "internal/strconv.uint64pow10", "math/bits.deBruijn32tab", "math/bits.deBruijn64tab", "internal/bytealg.MaxLen", "strconv.ErrSyntax", "strconv.ErrRange"], apart := false, laid := [("math/bits.deBruijn32tab", laid_math_bits_deBruijn32tab), ("math/bits.deBruijn64tab", laid_math_bits_deBruijn64tab), ("internal/strconv.uint64pow10", laid_internal_strconv_uint64pow10), ("strconv.ErrRange", laid_strconv_ErrRange), ("strconv.ErrSyntax", laid_strconv_ErrSyntax)], narrowed := true }
def AlgebraMatricesUptoSaid : Prop := algebraMatricesUptoRow.holds Tryz.pinned (OpenSpec.upto algebraMatricesSpec)

/-- 'talismanlaw01.AlgebraSolves', WHERE WHAT IT READS IS OF BULK AT MOST 1048576: true; the input reads as it did. -/
def algebraSolvesUptoRow : OpenClaim := { program := "ytneafcdfnhnpnaagreatdoor", sum := "a174c1936cbdf27461b08457f92377a12f51e8b6c529b7bc8a5bbb54f15dde3e", func := "talisman/talismanlaw01.AlgebraSolves", spec := "algebraSolves", inPlace := ["math/bits.Add64", "math/bits.Sub64", "internal/abi.NoEscape", "internal/bytealg.MakeNoZero", "internal/bytealg.IndexByteString", "internal/bytealg.IndexString"], unfollowed := true, recurses := true, named := ["math/bits.divideError", "math/bits.overflowError", "internal/strconv.uint64pow10", "math/bits.deBruijn32tab", "math/bits.deBruijn64tab", "internal/bytealg.MaxLen", "strconv.ErrSyntax", "strconv.ErrRange"], apart := false, laid := [("math/bits.deBruijn32tab", laid_math_bits_deBruijn32tab), ("math/bits.deBruijn64tab", laid_math_bits_deBruijn64tab), ("internal/strconv.uint64pow10", laid_internal_strconv_uint64pow10), ("strconv.ErrRange", laid_strconv_ErrRange), ("strconv.ErrSyntax", laid_strconv_ErrSyntax)], narrowed := true }
def AlgebraSolvesUptoSaid : Prop := algebraSolvesUptoRow.holds Tryz.pinned (OpenSpec.upto algebraSolvesSpec)

/-- 'talismanlaw01.AlgebraDeterminants', WHERE WHAT IT READS IS OF BULK AT MOST 1048576: true; the input reads as it did. -/
def algebraDeterminantsUptoRow : OpenClaim := { program := "ytneafcdfnhnpnaagreatdoor", sum := "a174c1936cbdf27461b08457f92377a12f51e8b6c529b7bc8a5bbb54f15dde3e", func := "talisman/talismanlaw01.AlgebraDeterminants", spec := "algebraDeterminants", inPlace := ["math/bits.Add64", "math/bits.Sub64", "internal/abi.NoEscape", "internal/bytealg.MakeNoZero", "internal/bytealg.IndexByteString", "internal/bytealg.IndexString"], unfollowed := true, recurses := true, named := ["math/bits.divideError", "math/bits.overflowError", "internal/strconv.uint64pow10", "math/bits.deBruijn32tab", "math/bits.deBruijn64tab", "internal/bytealg.MaxLen", "strconv.ErrSyntax", "strconv.ErrRange"], apart := false, laid := [("math/bits.deBruijn32tab", laid_math_bits_deBruijn32tab), ("math/bits.deBruijn64tab", laid_math_bits_deBruijn64tab), ("internal/strconv.uint64pow10", laid_internal_strconv_uint64pow10), ("strconv.ErrRange", laid_strconv_ErrRange), ("strconv.ErrSyntax", laid_strconv_ErrSyntax)], narrowed := true }
def AlgebraDeterminantsUptoSaid : Prop := algebraDeterminantsUptoRow.holds Tryz.pinned (OpenSpec.upto algebraDeterminantsSpec)

/-- 'talismanlaw01.AlgebraModulo', WHERE WHAT IT READS IS OF BULK AT MOST 1048576: true; the input reads as it did. -/
def algebraModuloUptoRow : OpenClaim := { program := "ytneafcdfnhnpnaagreatdoor", sum := "a174c1936cbdf27461b08457f92377a12f51e8b6c529b7bc8a5bbb54f15dde3e", func := "talisman/talismanlaw01.AlgebraModulo", spec := "algebraModulo", inPlace := ["math/bits.Add64", "math/bits.Sub64", "internal/abi.NoEscape", "internal/bytealg.MakeNoZero", "internal/bytealg.IndexByteString", "internal/bytealg.IndexString"], unfollowed := true, recurses := true, named := ["math/bits.divideError", "math/bits.overflowError", "internal/strconv.uint64pow10", "math/bits.deBruijn32tab", "math/bits.deBruijn64tab", "internal/bytealg.MaxLen", "strconv.ErrSyntax", "strconv.ErrRange"], apart := false, laid := [("math/bits.deBruijn32tab", laid_math_bits_deBruijn32tab), ("math/bits.deBruijn64tab", laid_math_bits_deBruijn64tab), ("internal/strconv.uint64pow10", laid_internal_strconv_uint64pow10), ("strconv.ErrRange", laid_strconv_ErrRange), ("strconv.ErrSyntax", laid_strconv_ErrSyntax)], narrowed := true }
def AlgebraModuloUptoSaid : Prop := algebraModuloUptoRow.holds Tryz.pinned (OpenSpec.upto algebraModuloSpec)

/-- 'talismanlaw01.AlgebraGroups', WHERE WHAT IT READS IS OF BULK AT MOST 1048576: true; the input reads as it did. -/
def algebraGroupsUptoRow : OpenClaim := { program := "ytneafcdfnhnpnaagreatdoor", sum := "a174c1936cbdf27461b08457f92377a12f51e8b6c529b7bc8a5bbb54f15dde3e", func := "talisman/talismanlaw01.AlgebraGroups", spec := "algebraGroups", inPlace := ["math/bits.Add64", "math/bits.Sub64", "internal/abi.NoEscape", "internal/bytealg.MakeNoZero", "internal/bytealg.IndexByteString", "internal/bytealg.IndexString"], unfollowed := true, recurses := true, named := ["math/bits.divideError", "math/bits.overflowError", "internal/strconv.uint64pow10", "math/bits.deBruijn32tab", "math/bits.deBruijn64tab", "internal/bytealg.MaxLen", "strconv.ErrSyntax", "strconv.ErrRange"], apart := false, laid := [("math/bits.deBruijn32tab", laid_math_bits_deBruijn32tab), ("math/bits.deBruijn64tab", laid_math_bits_deBruijn64tab), ("internal/strconv.uint64pow10", laid_internal_strconv_uint64pow10), ("strconv.ErrRange", laid_strconv_ErrRange), ("strconv.ErrSyntax", laid_strconv_ErrSyntax)], narrowed := true }
def AlgebraGroupsUptoSaid : Prop := algebraGroupsUptoRow.holds Tryz.pinned (OpenSpec.upto algebraGroupsSpec)

/-- 'talismanlaw01.AlgebraPlaces', WHERE WHAT IT READS IS OF BULK AT MOST 1048576: true; the input reads as it did. -/
def algebraPlacesUptoRow : OpenClaim := { program := "ytneafcdfnhnpnaagreatdoor", sum := "a174c1936cbdf27461b08457f92377a12f51e8b6c529b7bc8a5bbb54f15dde3e", func := "talisman/talismanlaw01.AlgebraPlaces", spec := "algebraPlaces", inPlace := ["math/bits.Add64", "math/bits.Sub64", "internal/abi.NoEscape", "internal/bytealg.MakeNoZero", "internal/bytealg.IndexByteString", "internal/bytealg.IndexString"], unfollowed := true, recurses := true, named := ["math/bits.divideError", "math/bits.overflowError", "internal/strconv.uint64pow10", "math/bits.deBruijn32tab", "math/bits.deBruijn64tab", "internal/bytealg.MaxLen", "strconv.ErrSyntax", "strconv.ErrRange"], apart := false, laid := [("math/bits.deBruijn32tab", laid_math_bits_deBruijn32tab), ("math/bits.deBruijn64tab", laid_math_bits_deBruijn64tab), ("internal/strconv.uint64pow10", laid_internal_strconv_uint64pow10), ("strconv.ErrRange", laid_strconv_ErrRange), ("strconv.ErrSyntax", laid_strconv_ErrSyntax)], narrowed := true }
def AlgebraPlacesUptoSaid : Prop := algebraPlacesUptoRow.holds Tryz.pinned (OpenSpec.upto algebraPlacesSpec)

/-- 'talismanlaw01.AlgebraNullSpaces', WHERE WHAT IT READS IS OF BULK AT MOST 1048576: true; the input reads as it did. -/
def algebraNullSpacesUptoRow : OpenClaim := { program := "ytneafcdfnhnpnaagreatdoor", sum := "a174c1936cbdf27461b08457f92377a12f51e8b6c529b7bc8a5bbb54f15dde3e", func := "talisman/talismanlaw01.AlgebraNullSpaces", spec := "algebraNullSpaces", inPlace := ["math/bits.Add64", "math/bits.Sub64", "internal/abi.NoEscape", "internal/bytealg.MakeNoZero", "internal/bytealg.IndexByteString", "internal/bytealg.IndexString"], unfollowed := true, recurses := true, named := ["math/bits.divideError", "math/bits.overflowError", "internal/strconv.uint64pow10", "math/bits.deBruijn32tab", "math/bits.deBruijn64tab", "internal/bytealg.MaxLen", "strconv.ErrSyntax", "strconv.ErrRange"], apart := false, laid := [("math/bits.deBruijn32tab", laid_math_bits_deBruijn32tab), ("math/bits.deBruijn64tab", laid_math_bits_deBruijn64tab), ("internal/strconv.uint64pow10", laid_internal_strconv_uint64pow10), ("strconv.ErrRange", laid_strconv_ErrRange), ("strconv.ErrSyntax", laid_strconv_ErrSyntax)], narrowed := true }
def AlgebraNullSpacesUptoSaid : Prop := algebraNullSpacesUptoRow.holds Tryz.pinned (OpenSpec.upto algebraNullSpacesSpec)

/-- 'talismanlaw01.AlgebraEquations', WHERE WHAT IT READS IS OF BULK AT MOST 1048576: true; the input reads as it did. -/
def algebraEquationsUptoRow : OpenClaim := { program := "ytneafcdfnhnpnaagreatdoor", sum := "a174c1936cbdf27461b08457f92377a12f51e8b6c529b7bc8a5bbb54f15dde3e", func := "talisman/talismanlaw01.AlgebraEquations", spec := "algebraEquations", inPlace := ["math/bits.Add64", "math/bits.Sub64", "internal/abi.NoEscape", "internal/bytealg.MakeNoZero", "internal/bytealg.IndexByteString", "internal/bytealg.IndexString"], unfollowed := true, recurses := true, named := ["math/bits.divideError", "math/bits.overflowError", "internal/strconv.uint64pow10", "math/bits.deBruijn32tab", "math/bits.deBruijn64tab", "internal/bytealg.MaxLen", "strconv.ErrSyntax", "strconv.ErrRange"], apart := false, laid := [("math/bits.deBruijn32tab", laid_math_bits_deBruijn32tab), ("math/bits.deBruijn64tab", laid_math_bits_deBruijn64tab), ("internal/strconv.uint64pow10", laid_internal_strconv_uint64pow10), ("strconv.ErrRange", laid_strconv_ErrRange), ("strconv.ErrSyntax", laid_strconv_ErrSyntax)], narrowed := true }
def AlgebraEquationsUptoSaid : Prop := algebraEquationsUptoRow.holds Tryz.pinned (OpenSpec.upto algebraEquationsSpec)

end Rows
end Go.Proofs.YtneafcdfnhnpnaaGreatDoor
