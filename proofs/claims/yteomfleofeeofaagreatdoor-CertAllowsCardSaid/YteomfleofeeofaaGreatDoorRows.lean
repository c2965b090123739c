/-
  NARROWER THAN 'FOR EVERY INPUT', by the rows' own cells (each row's printed sentence says how): CertTimes: laid · CertMakes: laid · CertReads: laid · CertAllows: laid · CertBack: laid · CertRises: laid · CertLets: laid.
  DERIVED. THE GIVEN ROWS OF THIS SEAT. 7 by the template 'for every input the law returns true; each argument reads behind the call as it read before'; 0 by the template 'total and deterministic' (their statements: YteomfleofeeofaaGreatDoorTotals.lean).
  GIVEN WITH THE SEED: the statements are not yours to turn. If you find one false, say at which input.
  Laid BY PROGRAM, IN A SANDBOX (cutbox-rows.mjs): the forced cells as the released guide's own fill.sh prints them over the translation 208017df1142d997… (all of the seat's roots in one cut). By AI agents, Wed Nov 11 2026. No macro, syntax, notation, axiom, sorry.
-/
import Derived.Test.YteomfleofeeofaaGreatDoorChecked
import GoSem.Claim
import GoSem.ClaimJoined
import GoSem.ClaimMapViews
import Derived.JoinedTies
import Derived.KernelRfl
namespace Go.Proofs.YteomfleofeeofaaGreatDoor
/- THE CELL 'sum', in the pinned program and in every row, IS THE sha256 OF THE DUMP (.gsa) THAT YteomfleofeeofaaGreatDoorProg.lean LOADS. Nothing in Lean hashes anything: it is a label: what it is worth is what the hold of that sum in a sandbox is worth. -/
noncomputable def Tryz.pinned : Pinned := { name := "yteomfleofeeofaagreatdoor", sum := "208017df1142d997f7e65e757baa46b4441ef032d1c6b9f68bfba11d7d1d8c40", checked := Tryz.checked }
namespace Rows
def none {H : Type} : Left H := { results := [], args := [] }

/- WHAT THE LISTED PACKAGE-LEVEL VARIABLES READ AS WHEN THE CALL BEGINS. Each datum BY PROGRAM (the guide's laid-datum.mjs) off the statement by which the dump's own 'gosem.cut.vars' lays the variable. In a bare row this is a premise. The card (YteomfleofeeofaaGreatDoorCards.lean) ties it to the program's text. -/
def laid_math_bits_deBruijn32tab {H : Type} : DataW H := .agg [.lit (.int .u8 0), .lit (.int .u8 1), .lit (.int .u8 28), .lit (.int .u8 2), .lit (.int .u8 29), .lit (.int .u8 14), .lit (.int .u8 24), .lit (.int .u8 3), .lit (.int .u8 30), .lit (.int .u8 22), .lit (.int .u8 20), .lit (.int .u8 15), .lit (.int .u8 25), .lit (.int .u8 17), .lit (.int .u8 4), .lit (.int .u8 8), .lit (.int .u8 31), .lit (.int .u8 27), .lit (.int .u8 13), .lit (.int .u8 23), .lit (.int .u8 21), .lit (.int .u8 19), .lit (.int .u8 16), .lit (.int .u8 7), .lit (.int .u8 26), .lit (.int .u8 12), .lit (.int .u8 18), .lit (.int .u8 6), .lit (.int .u8 11), .lit (.int .u8 5), .lit (.int .u8 10), .lit (.int .u8 9)]
def laid_math_bits_deBruijn64tab {H : Type} : DataW H := .agg [.lit (.int .u8 0), .lit (.int .u8 1), .lit (.int .u8 56), .lit (.int .u8 2), .lit (.int .u8 57), .lit (.int .u8 49), .lit (.int .u8 28), .lit (.int .u8 3), .lit (.int .u8 61), .lit (.int .u8 58), .lit (.int .u8 42), .lit (.int .u8 50), .lit (.int .u8 38), .lit (.int .u8 29), .lit (.int .u8 17), .lit (.int .u8 4), .lit (.int .u8 62), .lit (.int .u8 47), .lit (.int .u8 59), .lit (.int .u8 36), .lit (.int .u8 45), .lit (.int .u8 43), .lit (.int .u8 51), .lit (.int .u8 22), .lit (.int .u8 53), .lit (.int .u8 39), .lit (.int .u8 33), .lit (.int .u8 30), .lit (.int .u8 24), .lit (.int .u8 18), .lit (.int .u8 12), .lit (.int .u8 5), .lit (.int .u8 63), .lit (.int .u8 55), .lit (.int .u8 48), .lit (.int .u8 27), .lit (.int .u8 60), .lit (.int .u8 41), .lit (.int .u8 37), .lit (.int .u8 16), .lit (.int .u8 46), .lit (.int .u8 35), .lit (.int .u8 44), .lit (.int .u8 21), .lit (.int .u8 52), .lit (.int .u8 32), .lit (.int .u8 23), .lit (.int .u8 11), .lit (.int .u8 54), .lit (.int .u8 26), .lit (.int .u8 40), .lit (.int .u8 15), .lit (.int .u8 34), .lit (.int .u8 20), .lit (.int .u8 31), .lit (.int .u8 10), .lit (.int .u8 25), .lit (.int .u8 14), .lit (.int .u8 19), .lit (.int .u8 9), .lit (.int .u8 13), .lit (.int .u8 8), .lit (.int .u8 7), .lit (.int .u8 6)]
def laid_internal_strconv_uint64pow10 {H : Type} : DataW H := .agg [.lit (.int .u64 1), .lit (.int .u64 10), .lit (.int .u64 100), .lit (.int .u64 1000), .lit (.int .u64 10000), .lit (.int .u64 100000), .lit (.int .u64 1000000), .lit (.int .u64 10000000), .lit (.int .u64 100000000), .lit (.int .u64 1000000000), .lit (.int .u64 10000000000), .lit (.int .u64 100000000000), .lit (.int .u64 1000000000000), .lit (.int .u64 10000000000000), .lit (.int .u64 100000000000000), .lit (.int .u64 1000000000000000), .lit (.int .u64 10000000000000000), .lit (.int .u64 100000000000000000), .lit (.int .u64 1000000000000000000), .lit (.int .u64 10000000000000000000)]
def laid_cresset_field_prime {H : Type} : DataW H := .agg [.lit (.int .u64 18446744073709551597), .lit (.int .u64 18446744073709551615), .lit (.int .u64 18446744073709551615), .lit (.int .u64 9223372036854775807)]
def laid_cresset_scalar_order {H : Type} : DataW H := .agg [.lit (.int .i64 44509287405), .lit (.int .i64 57537537585), .lit (.int .i64 42389927836), .lit (.int .i64 85487), .lit (.int .i64 0), .lit (.int .i64 0), .lit (.int .i64 0), .lit (.int .i64 1)]
def laid_cresset_sha_initialValues {H : Type} : DataW H := .agg [.lit (.int .u64 7640891576956012808), .lit (.int .u64 13503953896175478587), .lit (.int .u64 4354685564936845355), .lit (.int .u64 11912009170470909681), .lit (.int .u64 5840696475078001361), .lit (.int .u64 11170449401992604703), .lit (.int .u64 2270897969802886507), .lit (.int .u64 6620516959819538809)]
def laid_cresset_sha_roundConstants {H : Type} : DataW H := .agg [.lit (.int .u64 4794697086780616226), .lit (.int .u64 8158064640168781261), .lit (.int .u64 13096744586834688815), .lit (.int .u64 16840607885511220156), .lit (.int .u64 4131703408338449720), .lit (.int .u64 6480981068601479193), .lit (.int .u64 10538285296894168987), .lit (.int .u64 12329834152419229976), .lit (.int .u64 15566598209576043074), .lit (.int .u64 1334009975649890238), .lit (.int .u64 2608012711638119052), .lit (.int .u64 6128411473006802146), .lit (.int .u64 8268148722764581231), .lit (.int .u64 9286055187155687089), .lit (.int .u64 11230858885718282805), .lit (.int .u64 13951009754708518548), .lit (.int .u64 16472876342353939154), .lit (.int .u64 17275323862435702243), .lit (.int .u64 1135362057144423861), .lit (.int .u64 2597628984639134821), .lit (.int .u64 3308224258029322869), .lit (.int .u64 5365058923640841347), .lit (.int .u64 6679025012923562964), .lit (.int .u64 8573033837759648693), .lit (.int .u64 10970295158949994411), .lit (.int .u64 12119686244451234320), .lit (.int .u64 12683024718118986047), .lit (.int .u64 13788192230050041572), .lit (.int .u64 14330467153632333762), .lit (.int .u64 15395433587784984357), .lit (.int .u64 489312712824947311), .lit (.int .u64 1452737877330783856), .lit (.int .u64 2861767655752347644), .lit (.int .u64 3322285676063803686), .lit (.int .u64 5560940570517711597), .lit (.int .u64 5996557281743188959), .lit (.int .u64 7280758554555802590), .lit (.int .u64 8532644243296465576), .lit (.int .u64 9350256976987008742), .lit (.int .u64 10552545826968843579), .lit (.int .u64 11727347734174303076), .lit (.int .u64 12113106623233404929), .lit (.int .u64 14000437183269869457), .lit (.int .u64 14369950271660146224), .lit (.int .u64 15101387698204529176), .lit (.int .u64 15463397548674623760), .lit (.int .u64 17586052441742319658), .lit (.int .u64 1182934255886127544), .lit (.int .u64 1847814050463011016), .lit (.int .u64 2177327727835720531), .lit (.int .u64 2830643537854262169), .lit (.int .u64 3796741975233480872), .lit (.int .u64 4115178125766777443), .lit (.int .u64 5681478168544905931), .lit (.int .u64 6601373596472566643), .lit (.int .u64 7507060721942968483), .lit (.int .u64 8399075790359081724), .lit (.int .u64 8693463985226723168), .lit (.int .u64 9568029438360202098), .lit (.int .u64 10144078919501101548), .lit (.int .u64 10430055236837252648), .lit (.int .u64 11840083180663258601), .lit (.int .u64 13761210420658862357), .lit (.int .u64 14299343276471374635), .lit (.int .u64 14566680578165727644), .lit (.int .u64 15097957966210449927), .lit (.int .u64 16922976911328602910), .lit (.int .u64 17689382322260857208), .lit (.int .u64 500013540394364858), .lit (.int .u64 748580250866718886), .lit (.int .u64 1242879168328830382), .lit (.int .u64 1977374033974150939), .lit (.int .u64 2944078676154940804), .lit (.int .u64 3659926193048069267), .lit (.int .u64 4368137639120453308), .lit (.int .u64 4836135668995329356), .lit (.int .u64 5532061633213252278), .lit (.int .u64 6448918945643986474), .lit (.int .u64 6902733635092675308), .lit (.int .u64 7801388544844847127)]

/-- 'cressetlaw14.CertTimes': WHATEVER THE INPUT: true; the input reads as it did. -/
def certTimesSpec : ChangeSpec := { name := "certTimes", fn := fun _ => fun
  | [d] => { results := [.lit (.bool true)], args := [d] }
  | _ => none }
def certTimesRow : OpenClaim := { program := "yteomfleofeeofaagreatdoor", sum := "208017df1142d997f7e65e757baa46b4441ef032d1c6b9f68bfba11d7d1d8c40", func := "cresset/cressetlaw14.CertTimes", spec := "certTimes", inPlace := ["internal/abi.NoEscape", "internal/bytealg.MakeNoZero", "math/bits.Add64", "math/bits.Sub64"], unfollowed := true, recurses := true, named := ["internal/strconv.uint64pow10", "math/bits.deBruijn32tab", "math/bits.deBruijn64tab", "cresset/field.prime", "cresset/scalar.order", "cresset/sha.initialValues", "cresset/sha.roundConstants"], apart := false, laid := [("math/bits.deBruijn32tab", laid_math_bits_deBruijn32tab), ("math/bits.deBruijn64tab", laid_math_bits_deBruijn64tab), ("internal/strconv.uint64pow10", laid_internal_strconv_uint64pow10), ("cresset/field.prime", laid_cresset_field_prime), ("cresset/scalar.order", laid_cresset_scalar_order), ("cresset/sha.initialValues", laid_cresset_sha_initialValues), ("cresset/sha.roundConstants", laid_cresset_sha_roundConstants)] }
def CertTimesSaid : Prop := certTimesRow.holds Tryz.pinned (OpenSpec.ofChange certTimesSpec)

/-- ITS FALSE NEIGHBOUR: 'it returns false'. Refute it at one input. -/
def certTimesWrong : ChangeSpec := { name := "certTimes", fn := fun _ => fun
  | [d] => { results := [.lit (.bool false)], args := [d] }
  | _ => none }
def CertTimesWrongFalsely : Prop := certTimesRow.holds Tryz.pinned (OpenSpec.ofChange certTimesWrong)

/-- 'cressetlaw14.CertMakes': WHATEVER THE INPUT: true; the input reads as it did. -/
def certMakesSpec : ChangeSpec := { name := "certMakes", fn := fun _ => fun
  | [d1, d2] => { results := [.lit (.bool true)], args := [d1, d2] }
  | _ => none }
def certMakesRow : OpenClaim := { program := "yteomfleofeeofaagreatdoor", sum := "208017df1142d997f7e65e757baa46b4441ef032d1c6b9f68bfba11d7d1d8c40", func := "cresset/cressetlaw14.CertMakes", spec := "certMakes", inPlace := ["internal/abi.NoEscape", "internal/bytealg.MakeNoZero", "math/bits.Add64", "math/bits.Sub64"], unfollowed := true, recurses := true, named := ["internal/strconv.uint64pow10", "math/bits.deBruijn32tab", "math/bits.deBruijn64tab", "cresset/field.prime", "cresset/scalar.order", "cresset/sha.initialValues", "cresset/sha.roundConstants"], apart := false, laid := [("math/bits.deBruijn32tab", laid_math_bits_deBruijn32tab), ("math/bits.deBruijn64tab", laid_math_bits_deBruijn64tab), ("internal/strconv.uint64pow10", laid_internal_strconv_uint64pow10), ("cresset/field.prime", laid_cresset_field_prime), ("cresset/scalar.order", laid_cresset_scalar_order), ("cresset/sha.initialValues", laid_cresset_sha_initialValues), ("cresset/sha.roundConstants", laid_cresset_sha_roundConstants)] }
def CertMakesSaid : Prop := certMakesRow.holds Tryz.pinned (OpenSpec.ofChange certMakesSpec)

/-- ITS FALSE NEIGHBOUR: 'it returns false'. Refute it at one input. -/
def certMakesWrong : ChangeSpec := { name := "certMakes", fn := fun _ => fun
  | [d1, d2] => { results := [.lit (.bool false)], args := [d1, d2] }
  | _ => none }
def CertMakesWrongFalsely : Prop := certMakesRow.holds Tryz.pinned (OpenSpec.ofChange certMakesWrong)

/-- 'cressetlaw14.CertReads': WHATEVER THE INPUT: true; the input reads as it did. -/
def certReadsSpec : ChangeSpec := { name := "certReads", fn := fun _ => fun
  | [d] => { results := [.lit (.bool true)], args := [d] }
  | _ => none }
def certReadsRow : OpenClaim := { program := "yteomfleofeeofaagreatdoor", sum := "208017df1142d997f7e65e757baa46b4441ef032d1c6b9f68bfba11d7d1d8c40", func := "cresset/cressetlaw14.CertReads", spec := "certReads", inPlace := ["internal/abi.NoEscape", "internal/bytealg.MakeNoZero", "math/bits.Add64", "math/bits.Sub64"], unfollowed := true, recurses := true, named := ["internal/strconv.uint64pow10", "math/bits.deBruijn32tab", "math/bits.deBruijn64tab", "cresset/field.prime", "cresset/scalar.order", "cresset/sha.initialValues", "cresset/sha.roundConstants"], apart := false, laid := [("math/bits.deBruijn32tab", laid_math_bits_deBruijn32tab), ("math/bits.deBruijn64tab", laid_math_bits_deBruijn64tab), ("internal/strconv.uint64pow10", laid_internal_strconv_uint64pow10), ("cresset/field.prime", laid_cresset_field_prime), ("cresset/scalar.order", laid_cresset_scalar_order), ("cresset/sha.initialValues", laid_cresset_sha_initialValues), ("cresset/sha.roundConstants", laid_cresset_sha_roundConstants)] }
def CertReadsSaid : Prop := certReadsRow.holds Tryz.pinned (OpenSpec.ofChange certReadsSpec)

/-- ITS FALSE NEIGHBOUR: 'it returns false'. Refute it at one input. -/
def certReadsWrong : ChangeSpec := { name := "certReads", fn := fun _ => fun
  | [d] => { results := [.lit (.bool false)], args := [d] }
  | _ => none }
def CertReadsWrongFalsely : Prop := certReadsRow.holds Tryz.pinned (OpenSpec.ofChange certReadsWrong)

/-- 'cressetlaw14.CertAllows': WHATEVER THE INPUT: true; the input reads as it did. -/
def certAllowsSpec : ChangeSpec := { name := "certAllows", fn := fun _ => fun
  | [d1, d2, d3] => { results := [.lit (.bool true)], args := [d1, d2, d3] }
  | _ => none }
def certAllowsRow : OpenClaim := { program := "yteomfleofeeofaagreatdoor", sum := "208017df1142d997f7e65e757baa46b4441ef032d1c6b9f68bfba11d7d1d8c40", func := "cresset/cressetlaw14.CertAllows", spec := "certAllows", inPlace := ["internal/abi.NoEscape", "internal/bytealg.MakeNoZero", "math/bits.Add64", "math/bits.Sub64"], unfollowed := true, recurses := true, named := ["internal/strconv.uint64pow10", "math/bits.deBruijn32tab", "math/bits.deBruijn64tab", "cresset/field.prime", "cresset/scalar.order", "cresset/sha.initialValues", "cresset/sha.roundConstants"], apart := false, laid := [("math/bits.deBruijn32tab", laid_math_bits_deBruijn32tab), ("math/bits.deBruijn64tab", laid_math_bits_deBruijn64tab), ("internal/strconv.uint64pow10", laid_internal_strconv_uint64pow10), ("cresset/field.prime", laid_cresset_field_prime), ("cresset/scalar.order", laid_cresset_scalar_order), ("cresset/sha.initialValues", laid_cresset_sha_initialValues), ("cresset/sha.roundConstants", laid_cresset_sha_roundConstants)] }
def CertAllowsSaid : Prop := certAllowsRow.holds Tryz.pinned (OpenSpec.ofChange certAllowsSpec)

/-- ITS FALSE NEIGHBOUR: 'it returns false'. Refute it at one input. -/
def certAllowsWrong : ChangeSpec := { name := "certAllows", fn := fun _ => fun
  | [d1, d2, d3] => { results := [.lit (.bool false)], args := [d1, d2, d3] }
  | _ => none }
def CertAllowsWrongFalsely : Prop := certAllowsRow.holds Tryz.pinned (OpenSpec.ofChange certAllowsWrong)

/-- 'cressetlaw14.CertBack': WHATEVER THE INPUT: true; the input reads as it did. -/
def certBackSpec : ChangeSpec := { name := "certBack", fn := fun _ => fun
  | [d1, d2, d3] => { results := [.lit (.bool true)], args := [d1, d2, d3] }
  | _ => none }
def certBackRow : OpenClaim := { program := "yteomfleofeeofaagreatdoor", sum := "208017df1142d997f7e65e757baa46b4441ef032d1c6b9f68bfba11d7d1d8c40", func := "cresset/cressetlaw14.CertBack", spec := "certBack", inPlace := ["internal/abi.NoEscape", "internal/bytealg.MakeNoZero", "math/bits.Add64", "math/bits.Sub64"], unfollowed := true, recurses := true, named := ["internal/strconv.uint64pow10", "math/bits.deBruijn32tab", "math/bits.deBruijn64tab", "cresset/field.prime", "cresset/scalar.order", "cresset/sha.initialValues", "cresset/sha.roundConstants"], apart := false, laid := [("math/bits.deBruijn32tab", laid_math_bits_deBruijn32tab), ("math/bits.deBruijn64tab", laid_math_bits_deBruijn64tab), ("internal/strconv.uint64pow10", laid_internal_strconv_uint64pow10), ("cresset/field.prime", laid_cresset_field_prime), ("cresset/scalar.order", laid_cresset_scalar_order), ("cresset/sha.initialValues", laid_cresset_sha_initialValues), ("cresset/sha.roundConstants", laid_cresset_sha_roundConstants)] }
def CertBackSaid : Prop := certBackRow.holds Tryz.pinned (OpenSpec.ofChange certBackSpec)

/-- ITS FALSE NEIGHBOUR: 'it returns false'. Refute it at one input. -/
def certBackWrong : ChangeSpec := { name := "certBack", fn := fun _ => fun
  | [d1, d2, d3] => { results := [.lit (.bool false)], args := [d1, d2, d3] }
  | _ => none }
def CertBackWrongFalsely : Prop := certBackRow.holds Tryz.pinned (OpenSpec.ofChange certBackWrong)

/-- 'cressetlaw14.CertRises': WHATEVER THE INPUT: true; the input reads as it did. -/
def certRisesSpec : ChangeSpec := { name := "certRises", fn := fun _ => fun
  | [d1, d2] => { results := [.lit (.bool true)], args := [d1, d2] }
  | _ => none }
def certRisesRow : OpenClaim := { program := "yteomfleofeeofaagreatdoor", sum := "208017df1142d997f7e65e757baa46b4441ef032d1c6b9f68bfba11d7d1d8c40", func := "cresset/cressetlaw14.CertRises", spec := "certRises", inPlace := ["internal/abi.NoEscape", "internal/bytealg.MakeNoZero", "math/bits.Add64", "math/bits.Sub64"], unfollowed := true, recurses := true, named := ["internal/strconv.uint64pow10", "math/bits.deBruijn32tab", "math/bits.deBruijn64tab", "cresset/field.prime", "cresset/scalar.order", "cresset/sha.initialValues", "cresset/sha.roundConstants"], apart := false, laid := [("math/bits.deBruijn32tab", laid_math_bits_deBruijn32tab), ("math/bits.deBruijn64tab", laid_math_bits_deBruijn64tab), ("internal/strconv.uint64pow10", laid_internal_strconv_uint64pow10), ("cresset/field.prime", laid_cresset_field_prime), ("cresset/scalar.order", laid_cresset_scalar_order), ("cresset/sha.initialValues", laid_cresset_sha_initialValues), ("cresset/sha.roundConstants", laid_cresset_sha_roundConstants)] }
def CertRisesSaid : Prop := certRisesRow.holds Tryz.pinned (OpenSpec.ofChange certRisesSpec)

/-- ITS FALSE NEIGHBOUR: 'it returns false'. Refute it at one input. -/
def certRisesWrong : ChangeSpec := { name := "certRises", fn := fun _ => fun
  | [d1, d2] => { results := [.lit (.bool false)], args := [d1, d2] }
  | _ => none }
def CertRisesWrongFalsely : Prop := certRisesRow.holds Tryz.pinned (OpenSpec.ofChange certRisesWrong)

/-- 'cressetlaw14.CertLets': WHATEVER THE INPUT: true; the input reads as it did. -/
def certLetsSpec : ChangeSpec := { name := "certLets", fn := fun _ => fun
  | [d1, d2, d3] => { results := [.lit (.bool true)], args := [d1, d2, d3] }
  | _ => none }
def certLetsRow : OpenClaim := { program := "yteomfleofeeofaagreatdoor", sum := "208017df1142d997f7e65e757baa46b4441ef032d1c6b9f68bfba11d7d1d8c40", func := "cresset/cressetlaw14.CertLets", spec := "certLets", inPlace := ["internal/abi.NoEscape", "internal/bytealg.MakeNoZero", "math/bits.Add64", "math/bits.Sub64"], unfollowed := true, recurses := true, named := ["internal/strconv.uint64pow10", "math/bits.deBruijn32tab", "math/bits.deBruijn64tab", "cresset/field.prime", "cresset/scalar.order", "cresset/sha.initialValues", "cresset/sha.roundConstants"], apart := false, laid := [("math/bits.deBruijn32tab", laid_math_bits_deBruijn32tab), ("math/bits.deBruijn64tab", laid_math_bits_deBruijn64tab), ("internal/strconv.uint64pow10", laid_internal_strconv_uint64pow10), ("cresset/field.prime", laid_cresset_field_prime), ("cresset/scalar.order", laid_cresset_scalar_order), ("cresset/sha.initialValues", laid_cresset_sha_initialValues), ("cresset/sha.roundConstants", laid_cresset_sha_roundConstants)] }
def CertLetsSaid : Prop := certLetsRow.holds Tryz.pinned (OpenSpec.ofChange certLetsSpec)

/-- ITS FALSE NEIGHBOUR: 'it returns false'. Refute it at one input. -/
def certLetsWrong : ChangeSpec := { name := "certLets", fn := fun _ => fun
  | [d1, d2, d3] => { results := [.lit (.bool false)], args := [d1, d2, d3] }
  | _ => none }
def CertLetsWrongFalsely : Prop := certLetsRow.holds Tryz.pinned (OpenSpec.ofChange certLetsWrong)

/- THE SECOND FORM. 'bulk': how many values and letters a reading holds, each counted each time it is reached (what is shared counts as often as it is met; a slice's spare places count too). A statement '..UptoSaid' is the law's where the arguments, and the package variables that the reading takes, are together of bulk at most 1048576: NARROWER than '..Said'. Prove '..Said' where nothing that the law and all that it calls make is longer than what came in: it says more and counts as full. Else prove '..UptoSaid'. A law counts once. -/
mutual
def uptoBulk {H : Type} : DataW H → Nat
  | .lit (.string bytes) => bytes.length + 1
  | .lit _ => 1
  | .nil => 1
  | .ptr d => uptoBulk d + 1
  | .slice elems spare => uptoBulkAll elems + uptoBulkAll spare + 1
  | .agg parts => uptoBulkAll parts + 1
  | .iface _ d => uptoBulk d + 1
  | .map entries => uptoBulkEntries entries + 1
  | .held _ => 1
def uptoBulkAll {H : Type} : List (DataW H) → Nat
  | [] => 0
  | d :: r => uptoBulk d + uptoBulkAll r
def uptoBulkEntries {H : Type} : List (Lit × DataW H) → Nat
  | [] => 0
  | x :: r => uptoBulkEntry x + uptoBulkEntries r
def uptoBulkEntry {H : Type} : Lit × DataW H → Nat
  | (.string bytes, d) => bytes.length + uptoBulk d + 1
  | (_, d) => uptoBulk d + 1
 end
def uptoSmall : (H : Type) → List (DataW H) → Bool := fun _ ds => decide (uptoBulkAll ds ≤ 1048576)
def OpenSpec.upto (s : _root_.Go.ChangeSpec) : _root_.Go.OpenSpec := { _root_.Go.OpenSpec.ofChange s with cond := some uptoSmall }

/-- 'cressetlaw14.CertTimes', WHERE WHAT IT READS IS OF BULK AT MOST 1048576: true; the input reads as it did. -/
def certTimesUptoRow : OpenClaim := { program := "yteomfleofeeofaagreatdoor", sum := "208017df1142d997f7e65e757baa46b4441ef032d1c6b9f68bfba11d7d1d8c40", func := "cresset/cressetlaw14.CertTimes", spec := "certTimes", inPlace := ["internal/abi.NoEscape", "internal/bytealg.MakeNoZero", "math/bits.Add64", "math/bits.Sub64"], unfollowed := true, recurses := true, named := ["internal/strconv.uint64pow10", "math/bits.deBruijn32tab", "math/bits.deBruijn64tab", "cresset/field.prime", "cresset/scalar.order", "cresset/sha.initialValues", "cresset/sha.roundConstants"], apart := false, laid := [("math/bits.deBruijn32tab", laid_math_bits_deBruijn32tab), ("math/bits.deBruijn64tab", laid_math_bits_deBruijn64tab), ("internal/strconv.uint64pow10", laid_internal_strconv_uint64pow10), ("cresset/field.prime", laid_cresset_field_prime), ("cresset/scalar.order", laid_cresset_scalar_order), ("cresset/sha.initialValues", laid_cresset_sha_initialValues), ("cresset/sha.roundConstants", laid_cresset_sha_roundConstants)], narrowed := true }
def CertTimesUptoSaid : Prop := certTimesUptoRow.holds Tryz.pinned (OpenSpec.upto certTimesSpec)

/-- 'cressetlaw14.CertMakes', WHERE WHAT IT READS IS OF BULK AT MOST 1048576: true; the input reads as it did. -/
def certMakesUptoRow : OpenClaim := { program := "yteomfleofeeofaagreatdoor", sum := "208017df1142d997f7e65e757baa46b4441ef032d1c6b9f68bfba11d7d1d8c40", func := "cresset/cressetlaw14.CertMakes", spec := "certMakes", inPlace := ["internal/abi.NoEscape", "internal/bytealg.MakeNoZero", "math/bits.Add64", "math/bits.Sub64"], unfollowed := true, recurses := true, named := ["internal/strconv.uint64pow10", "math/bits.deBruijn32tab", "math/bits.deBruijn64tab", "cresset/field.prime", "cresset/scalar.order", "cresset/sha.initialValues", "cresset/sha.roundConstants"], apart := false, laid := [("math/bits.deBruijn32tab", laid_math_bits_deBruijn32tab), ("math/bits.deBruijn64tab", laid_math_bits_deBruijn64tab), ("internal/strconv.uint64pow10", laid_internal_strconv_uint64pow10), ("cresset/field.prime", laid_cresset_field_prime), ("cresset/scalar.order", laid_cresset_scalar_order), ("cresset/sha.initialValues", laid_cresset_sha_initialValues), ("cresset/sha.roundConstants", laid_cresset_sha_roundConstants)], narrowed := true }
def CertMakesUptoSaid : Prop := certMakesUptoRow.holds Tryz.pinned (OpenSpec.upto certMakesSpec)

/-- 'cressetlaw14.CertReads', WHERE WHAT IT READS IS OF BULK AT MOST 1048576: true; the input reads as it did. -/
def certReadsUptoRow : OpenClaim := { program := "yteomfleofeeofaagreatdoor", sum := "208017df1142d997f7e65e757baa46b4441ef032d1c6b9f68bfba11d7d1d8c40", func := "cresset/cressetlaw14.CertReads", spec := "certReads", inPlace := ["internal/abi.NoEscape", "internal/bytealg.MakeNoZero", "math/bits.Add64", "math/bits.Sub64"], unfollowed := true, recurses := true, named := ["internal/strconv.uint64pow10", "math/bits.deBruijn32tab", "math/bits.deBruijn64tab", "cresset/field.prime", "cresset/scalar.order", "cresset/sha.initialValues", "cresset/sha.roundConstants"], apart := false, laid := [("math/bits.deBruijn32tab", laid_math_bits_deBruijn32tab), ("math/bits.deBruijn64tab", laid_math_bits_deBruijn64tab), ("internal/strconv.uint64pow10", laid_internal_strconv_uint64pow10), ("cresset/field.prime", laid_cresset_field_prime), ("cresset/scalar.order", laid_cresset_scalar_order), ("cresset/sha.initialValues", laid_cresset_sha_initialValues), ("cresset/sha.roundConstants", laid_cresset_sha_roundConstants)], narrowed := true }
def CertReadsUptoSaid : Prop := certReadsUptoRow.holds Tryz.pinned (OpenSpec.upto certReadsSpec)

/-- 'cressetlaw14.CertAllows', WHERE WHAT IT READS IS OF BULK AT MOST 1048576: true; the input reads as it did. -/
def certAllowsUptoRow : OpenClaim := { program := "yteomfleofeeofaagreatdoor", sum := "208017df1142d997f7e65e757baa46b4441ef032d1c6b9f68bfba11d7d1d8c40", func := "cresset/cressetlaw14.CertAllows", spec := "certAllows", inPlace := ["internal/abi.NoEscape", "internal/bytealg.MakeNoZero", "math/bits.Add64", "math/bits.Sub64"], unfollowed := true, recurses := true, named := ["internal/strconv.uint64pow10", "math/bits.deBruijn32tab", "math/bits.deBruijn64tab", "cresset/field.prime", "cresset/scalar.order", "cresset/sha.initialValues", "cresset/sha.roundConstants"], apart := false, laid := [("math/bits.deBruijn32tab", laid_math_bits_deBruijn32tab), ("math/bits.deBruijn64tab", laid_math_bits_deBruijn64tab), ("internal/strconv.uint64pow10", laid_internal_strconv_uint64pow10), ("cresset/field.prime", laid_cresset_field_prime), ("cresset/scalar.order", laid_cresset_scalar_order), ("cresset/sha.initialValues", laid_cresset_sha_initialValues), ("cresset/sha.roundConstants", laid_cresset_sha_roundConstants)], narrowed := true }
def CertAllowsUptoSaid : Prop := certAllowsUptoRow.holds Tryz.pinned (OpenSpec.upto certAllowsSpec)

/-- 'cressetlaw14.CertBack', WHERE WHAT IT READS IS OF BULK AT MOST 1048576: true; the input reads as it did. -/
def certBackUptoRow : OpenClaim := { program := "yteomfleofeeofaagreatdoor", sum := "208017df1142d997f7e65e757baa46b4441ef032d1c6b9f68bfba11d7d1d8c40", func := "cresset/cressetlaw14.CertBack", spec := "certBack", inPlace := ["internal/abi.NoEscape", "internal/bytealg.MakeNoZero", "math/bits.Add64", "math/bits.Sub64"], unfollowed := true, recurses := true, named := ["internal/strconv.uint64pow10", "math/bits.deBruijn32tab", "math/bits.deBruijn64tab", "cresset/field.prime", "cresset/scalar.order", "cresset/sha.initialValues", "cresset/sha.roundConstants"], apart := false, laid := [("math/bits.deBruijn32tab", laid_math_bits_deBruijn32tab), ("math/bits.deBruijn64tab", laid_math_bits_deBruijn64tab), ("internal/strconv.uint64pow10", laid_internal_strconv_uint64pow10), ("cresset/field.prime", laid_cresset_field_prime), ("cresset/scalar.order", laid_cresset_scalar_order), ("cresset/sha.initialValues", laid_cresset_sha_initialValues), ("cresset/sha.roundConstants", laid_cresset_sha_roundConstants)], narrowed := true }
def CertBackUptoSaid : Prop := certBackUptoRow.holds Tryz.pinned (OpenSpec.upto certBackSpec)

/-- 'cressetlaw14.CertRises', WHERE WHAT IT READS IS OF BULK AT MOST 1048576: true; the input reads as it did. -/
def certRisesUptoRow : OpenClaim := { program := "yteomfleofeeofaagreatdoor", sum := "208017df1142d997f7e65e757baa46b4441ef032d1c6b9f68bfba11d7d1d8c40", func := "cresset/cressetlaw14.CertRises", spec := "certRises", inPlace := ["internal/abi.NoEscape", "internal/bytealg.MakeNoZero", "math/bits.Add64", "math/bits.Sub64"], unfollowed := true, recurses := true, named := ["internal/strconv.uint64pow10", "math/bits.deBruijn32tab", "math/bits.deBruijn64tab", "cresset/field.prime", "cresset/scalar.order", "cresset/sha.initialValues", "cresset/sha.roundConstants"], apart := false, laid := [("math/bits.deBruijn32tab", laid_math_bits_deBruijn32tab), ("math/bits.deBruijn64tab", laid_math_bits_deBruijn64tab), ("internal/strconv.uint64pow10", laid_internal_strconv_uint64pow10), ("cresset/field.prime", laid_cresset_field_prime), ("cresset/scalar.order", laid_cresset_scalar_order), ("cresset/sha.initialValues", laid_cresset_sha_initialValues), ("cresset/sha.roundConstants", laid_cresset_sha_roundConstants)], narrowed := true }
def CertRisesUptoSaid : Prop := certRisesUptoRow.holds Tryz.pinned (OpenSpec.upto certRisesSpec)

/-- 'cressetlaw14.CertLets', WHERE WHAT IT READS IS OF BULK AT MOST 1048576: true; the input reads as it did. -/
def certLetsUptoRow : OpenClaim := { program := "yteomfleofeeofaagreatdoor", sum := "208017df1142d997f7e65e757baa46b4441ef032d1c6b9f68bfba11d7d1d8c40", func := "cresset/cressetlaw14.CertLets", spec := "certLets", inPlace := ["internal/abi.NoEscape", "internal/bytealg.MakeNoZero", "math/bits.Add64", "math/bits.Sub64"], unfollowed := true, recurses := true, named := ["internal/strconv.uint64pow10", "math/bits.deBruijn32tab", "math/bits.deBruijn64tab", "cresset/field.prime", "cresset/scalar.order", "cresset/sha.initialValues", "cresset/sha.roundConstants"], apart := false, laid := [("math/bits.deBruijn32tab", laid_math_bits_deBruijn32tab), ("math/bits.deBruijn64tab", laid_math_bits_deBruijn64tab), ("internal/strconv.uint64pow10", laid_internal_strconv_uint64pow10), ("cresset/field.prime", laid_cresset_field_prime), ("cresset/scalar.order", laid_cresset_scalar_order), ("cresset/sha.initialValues", laid_cresset_sha_initialValues), ("cresset/sha.roundConstants", laid_cresset_sha_roundConstants)], narrowed := true }
def CertLetsUptoSaid : Prop := certLetsUptoRow.holds Tryz.pinned (OpenSpec.upto certLetsSpec)

end Rows
end Go.Proofs.YteomfleofeeofaaGreatDoor
