/-
  NARROWER THAN 'FOR EVERY INPUT', by the rows' own cells (each row's printed sentence says how): VaultPlays: laid · VaultOnce: laid · MemberPlays: laid · MemberMeets: laid · MemberNone: laid · MemberForks: laid · MemberOnce: laid.
  DERIVED. THE GIVEN ROWS OF THIS SEAT. 7 by the template 'for every input the law returns true; each argument reads behind the call as it read before'; 0 by the template 'total and deterministic' (their statements: YthnehnmdcbgjmaaGreatDoorTotals.lean).
  GIVEN WITH THE SEED: the statements are not yours to turn. If you find one false, say at which input.
  Laid BY PROGRAM, IN A SANDBOX (cutbox-rows.mjs): the forced cells as the released guide's own fill.sh prints them over the translation 436b0b0f6d3bbcd7… (all of the seat's roots in one cut). By AI agents, Wed Nov 11 2026. No macro, syntax, notation, axiom, sorry.
-/
import Derived.Test.YthnehnmdcbgjmaaGreatDoorChecked
import GoSem.Claim
import GoSem.ClaimJoined
import GoSem.ClaimMapViews
import Derived.JoinedTies
import Derived.KernelRfl
namespace Go.Proofs.YthnehnmdcbgjmaaGreatDoor
/- THE CELL 'sum', in the pinned program and in every row, IS THE sha256 OF THE DUMP (.gsa) THAT YthnehnmdcbgjmaaGreatDoorProg.lean LOADS. Nothing in Lean hashes anything: it is a label: what it is worth is what the hold of that sum in a sandbox is worth. -/
noncomputable def Tryz.pinned : Pinned := { name := "ythnehnmdcbgjmaagreatdoor", sum := "436b0b0f6d3bbcd73a7710013ce097c3bff25b9bb71e42495d0da7d4ec03f9b8", checked := Tryz.checked }
namespace Rows
def none {H : Type} : Left H := { results := [], args := [] }

/- WHAT THE LISTED PACKAGE-LEVEL VARIABLES READ AS WHEN THE CALL BEGINS. Each datum BY PROGRAM (the guide's laid-datum.mjs) off the statement by which the dump's own 'gosem.cut.vars' lays the variable. In a bare row this is a premise. The card (YthnehnmdcbgjmaaGreatDoorCards.lean) ties it to the program's text. -/
def laid_errors_errorType {H : Type} : DataW H := .iface "internal/reflectlite.rtype" (.agg [.ptr (.lit (.string [101, 114, 114, 111, 114]))])
def laid_sapwood_sha_square {H : Type} : DataW H := .agg [.lit (.int .u32 1779033703), .lit (.int .u32 3144134277), .lit (.int .u32 1013904242), .lit (.int .u32 2773480762), .lit (.int .u32 1359893119), .lit (.int .u32 2600822924), .lit (.int .u32 528734635), .lit (.int .u32 1541459225)]
def laid_sapwood_sha_cube {H : Type} : DataW H := .agg [.lit (.int .u32 1116352408), .lit (.int .u32 1899447441), .lit (.int .u32 3049323471), .lit (.int .u32 3921009573), .lit (.int .u32 961987163), .lit (.int .u32 1508970993), .lit (.int .u32 2453635748), .lit (.int .u32 2870763221), .lit (.int .u32 3624381080), .lit (.int .u32 310598401), .lit (.int .u32 607225278), .lit (.int .u32 1426881987), .lit (.int .u32 1925078388), .lit (.int .u32 2162078206), .lit (.int .u32 2614888103), .lit (.int .u32 3248222580), .lit (.int .u32 3835390401), .lit (.int .u32 4022224774), .lit (.int .u32 264347078), .lit (.int .u32 604807628), .lit (.int .u32 770255983), .lit (.int .u32 1249150122), .lit (.int .u32 1555081692), .lit (.int .u32 1996064986), .lit (.int .u32 2554220882), .lit (.int .u32 2821834349), .lit (.int .u32 2952996808), .lit (.int .u32 3210313671), .lit (.int .u32 3336571891), .lit (.int .u32 3584528711), .lit (.int .u32 113926993), .lit (.int .u32 338241895), .lit (.int .u32 666307205), .lit (.int .u32 773529912), .lit (.int .u32 1294757372), .lit (.int .u32 1396182291), .lit (.int .u32 1695183700), .lit (.int .u32 1986661051), .lit (.int .u32 2177026350), .lit (.int .u32 2456956037), .lit (.int .u32 2730485921), .lit (.int .u32 2820302411), .lit (.int .u32 3259730800), .lit (.int .u32 3345764771), .lit (.int .u32 3516065817), .lit (.int .u32 3600352804), .lit (.int .u32 4094571909), .lit (.int .u32 275423344), .lit (.int .u32 430227734), .lit (.int .u32 506948616), .lit (.int .u32 659060556), .lit (.int .u32 883997877), .lit (.int .u32 958139571), .lit (.int .u32 1322822218), .lit (.int .u32 1537002063), .lit (.int .u32 1747873779), .lit (.int .u32 1955562222), .lit (.int .u32 2024104815), .lit (.int .u32 2227730452), .lit (.int .u32 2361852424), .lit (.int .u32 2428436474), .lit (.int .u32 2756734187), .lit (.int .u32 3204031479), .lit (.int .u32 3329325298)]

/-- 'sapwoodlaw21.VaultPlays': WHATEVER THE INPUT: true; the input reads as it did. -/
def vaultPlaysSpec : ChangeSpec := { name := "vaultPlays", fn := fun _ => fun
  | [d1, d2] => { results := [.lit (.bool true)], args := [d1, d2] }
  | _ => none }
def vaultPlaysRow : OpenClaim := { program := "ythnehnmdcbgjmaagreatdoor", sum := "436b0b0f6d3bbcd73a7710013ce097c3bff25b9bb71e42495d0da7d4ec03f9b8", func := "sapwood/sapwoodlaw21.VaultPlays", spec := "vaultPlays", inPlace := ["internal/abi.NoEscape", "internal/bytealg.MakeNoZero", "math/bits.Add64", "internal/reflectlite.ValueOf", "(internal/reflectlite.Value).Type", "(internal/reflectlite.Value).IsNil", "internal/reflectlite.TypeOf", "(internal/reflectlite.Value).Elem", "(internal/reflectlite.Value).Set", "maps.clone"], unfollowed := true, recurses := true, named := ["sapwood/sha.square", "sapwood/sha.cube", "errors.errorType"], apart := false, laid := [("errors.errorType", laid_errors_errorType), ("sapwood/sha.square", laid_sapwood_sha_square), ("sapwood/sha.cube", laid_sapwood_sha_cube)] }
def VaultPlaysSaid : Prop := vaultPlaysRow.holds Tryz.pinned (OpenSpec.ofChange vaultPlaysSpec)

/-- ITS FALSE NEIGHBOUR: 'it returns false'. Refute it at one input. -/
def vaultPlaysWrong : ChangeSpec := { name := "vaultPlays", fn := fun _ => fun
  | [d1, d2] => { results := [.lit (.bool false)], args := [d1, d2] }
  | _ => none }
def VaultPlaysWrongFalsely : Prop := vaultPlaysRow.holds Tryz.pinned (OpenSpec.ofChange vaultPlaysWrong)

/-- 'sapwoodlaw21.VaultOnce': WHATEVER THE INPUT: true; the input reads as it did. -/
def vaultOnceSpec : ChangeSpec := { name := "vaultOnce", fn := fun _ => fun
  | [d] => { results := [.lit (.bool true)], args := [d] }
  | _ => none }
def vaultOnceRow : OpenClaim := { program := "ythnehnmdcbgjmaagreatdoor", sum := "436b0b0f6d3bbcd73a7710013ce097c3bff25b9bb71e42495d0da7d4ec03f9b8", func := "sapwood/sapwoodlaw21.VaultOnce", spec := "vaultOnce", inPlace := ["internal/abi.NoEscape", "internal/bytealg.MakeNoZero", "math/bits.Add64", "internal/reflectlite.ValueOf", "(internal/reflectlite.Value).Type", "(internal/reflectlite.Value).IsNil", "internal/reflectlite.TypeOf", "(internal/reflectlite.Value).Elem", "(internal/reflectlite.Value).Set"], unfollowed := true, recurses := true, named := ["sapwood/sha.square", "sapwood/sha.cube", "errors.errorType"], apart := false, laid := [("errors.errorType", laid_errors_errorType), ("sapwood/sha.square", laid_sapwood_sha_square), ("sapwood/sha.cube", laid_sapwood_sha_cube)] }
def VaultOnceSaid : Prop := vaultOnceRow.holds Tryz.pinned (OpenSpec.ofChange vaultOnceSpec)

/-- ITS FALSE NEIGHBOUR: 'it returns false'. Refute it at one input. -/
def vaultOnceWrong : ChangeSpec := { name := "vaultOnce", fn := fun _ => fun
  | [d] => { results := [.lit (.bool false)], args := [d] }
  | _ => none }
def VaultOnceWrongFalsely : Prop := vaultOnceRow.holds Tryz.pinned (OpenSpec.ofChange vaultOnceWrong)

/-- 'sapwoodlaw22.MemberPlays': WHATEVER THE INPUT: true; the input reads as it did. -/
def memberPlaysSpec : ChangeSpec := { name := "memberPlays", fn := fun _ => fun
  | [d] => { results := [.lit (.bool true)], args := [d] }
  | _ => none }
def memberPlaysRow : OpenClaim := { program := "ythnehnmdcbgjmaagreatdoor", sum := "436b0b0f6d3bbcd73a7710013ce097c3bff25b9bb71e42495d0da7d4ec03f9b8", func := "sapwood/sapwoodlaw22.MemberPlays", spec := "memberPlays", inPlace := ["maps.clone", "math/bits.Add64", "internal/abi.NoEscape", "internal/bytealg.MakeNoZero", "internal/reflectlite.ValueOf", "(internal/reflectlite.Value).Type", "(internal/reflectlite.Value).IsNil", "internal/reflectlite.TypeOf", "(internal/reflectlite.Value).Elem", "(internal/reflectlite.Value).Set"], unfollowed := true, recurses := true, named := ["sapwood/sha.square", "sapwood/sha.cube", "errors.errorType"], apart := false, laid := [("errors.errorType", laid_errors_errorType), ("sapwood/sha.square", laid_sapwood_sha_square), ("sapwood/sha.cube", laid_sapwood_sha_cube)] }
def MemberPlaysSaid : Prop := memberPlaysRow.holds Tryz.pinned (OpenSpec.ofChange memberPlaysSpec)

/-- ITS FALSE NEIGHBOUR: 'it returns false'. Refute it at one input. -/
def memberPlaysWrong : ChangeSpec := { name := "memberPlays", fn := fun _ => fun
  | [d] => { results := [.lit (.bool false)], args := [d] }
  | _ => none }
def MemberPlaysWrongFalsely : Prop := memberPlaysRow.holds Tryz.pinned (OpenSpec.ofChange memberPlaysWrong)

/-- 'sapwoodlaw22.MemberMeets': WHATEVER THE INPUT: true; the input reads as it did. -/
def memberMeetsSpec : ChangeSpec := { name := "memberMeets", fn := fun _ => fun
  | [d1, d2, d3, d4] => { results := [.lit (.bool true)], args := [d1, d2, d3, d4] }
  | _ => none }
def memberMeetsRow : OpenClaim := { program := "ythnehnmdcbgjmaagreatdoor", sum := "436b0b0f6d3bbcd73a7710013ce097c3bff25b9bb71e42495d0da7d4ec03f9b8", func := "sapwood/sapwoodlaw22.MemberMeets", spec := "memberMeets", inPlace := ["maps.clone", "math/bits.Add64", "internal/abi.NoEscape", "internal/bytealg.MakeNoZero", "internal/reflectlite.ValueOf", "(internal/reflectlite.Value).Type", "(internal/reflectlite.Value).IsNil", "internal/reflectlite.TypeOf", "(internal/reflectlite.Value).Elem", "(internal/reflectlite.Value).Set"], unfollowed := true, recurses := true, named := ["sapwood/sha.square", "sapwood/sha.cube", "errors.errorType"], apart := false, laid := [("errors.errorType", laid_errors_errorType), ("sapwood/sha.square", laid_sapwood_sha_square), ("sapwood/sha.cube", laid_sapwood_sha_cube)] }
def MemberMeetsSaid : Prop := memberMeetsRow.holds Tryz.pinned (OpenSpec.ofChange memberMeetsSpec)

/-- ITS FALSE NEIGHBOUR: 'it returns false'. Refute it at one input. -/
def memberMeetsWrong : ChangeSpec := { name := "memberMeets", fn := fun _ => fun
  | [d1, d2, d3, d4] => { results := [.lit (.bool false)], args := [d1, d2, d3, d4] }
  | _ => none }
def MemberMeetsWrongFalsely : Prop := memberMeetsRow.holds Tryz.pinned (OpenSpec.ofChange memberMeetsWrong)

/-- 'sapwoodlaw22.MemberNone': WHATEVER THE INPUT: true; the input reads as it did. -/
def memberNoneSpec : ChangeSpec := { name := "memberNone", fn := fun _ => fun
  | [] => { results := [.lit (.bool true)], args := [] }
  | _ => none }
def memberNoneRow : OpenClaim := { program := "ythnehnmdcbgjmaagreatdoor", sum := "436b0b0f6d3bbcd73a7710013ce097c3bff25b9bb71e42495d0da7d4ec03f9b8", func := "sapwood/sapwoodlaw22.MemberNone", spec := "memberNone", inPlace := ["maps.clone", "math/bits.Add64", "internal/abi.NoEscape", "internal/bytealg.MakeNoZero", "internal/reflectlite.TypeOf", "internal/reflectlite.ValueOf", "(internal/reflectlite.Value).Type", "(internal/reflectlite.Value).IsNil", "(internal/reflectlite.Value).Elem", "(internal/reflectlite.Value).Set"], unfollowed := true, recurses := true, named := ["sapwood/sha.square", "sapwood/sha.cube", "errors.errorType"], apart := false, laid := [("errors.errorType", laid_errors_errorType), ("sapwood/sha.square", laid_sapwood_sha_square), ("sapwood/sha.cube", laid_sapwood_sha_cube)] }
def MemberNoneSaid : Prop := memberNoneRow.holds Tryz.pinned (OpenSpec.ofChange memberNoneSpec)

/-- ITS FALSE NEIGHBOUR: 'it returns false'. Refute it at one input. -/
def memberNoneWrong : ChangeSpec := { name := "memberNone", fn := fun _ => fun
  | [] => { results := [.lit (.bool false)], args := [] }
  | _ => none }
def MemberNoneWrongFalsely : Prop := memberNoneRow.holds Tryz.pinned (OpenSpec.ofChange memberNoneWrong)

/-- 'sapwoodlaw22.MemberForks': WHATEVER THE INPUT: true; the input reads as it did. -/
def memberForksSpec : ChangeSpec := { name := "memberForks", fn := fun _ => fun
  | [d1, d2, d3, d4, d5, d6] => { results := [.lit (.bool true)], args := [d1, d2, d3, d4, d5, d6] }
  | _ => none }
def memberForksRow : OpenClaim := { program := "ythnehnmdcbgjmaagreatdoor", sum := "436b0b0f6d3bbcd73a7710013ce097c3bff25b9bb71e42495d0da7d4ec03f9b8", func := "sapwood/sapwoodlaw22.MemberForks", spec := "memberForks", inPlace := ["maps.clone", "math/bits.Add64", "internal/abi.NoEscape", "internal/bytealg.MakeNoZero", "internal/reflectlite.ValueOf", "(internal/reflectlite.Value).Type", "(internal/reflectlite.Value).IsNil", "internal/reflectlite.TypeOf", "(internal/reflectlite.Value).Elem", "(internal/reflectlite.Value).Set"], unfollowed := true, recurses := true, named := ["sapwood/sha.square", "sapwood/sha.cube", "errors.errorType"], apart := false, laid := [("errors.errorType", laid_errors_errorType), ("sapwood/sha.square", laid_sapwood_sha_square), ("sapwood/sha.cube", laid_sapwood_sha_cube)] }
def MemberForksSaid : Prop := memberForksRow.holds Tryz.pinned (OpenSpec.ofChange memberForksSpec)

/-- ITS FALSE NEIGHBOUR: 'it returns false'. Refute it at one input. -/
def memberForksWrong : ChangeSpec := { name := "memberForks", fn := fun _ => fun
  | [d1, d2, d3, d4, d5, d6] => { results := [.lit (.bool false)], args := [d1, d2, d3, d4, d5, d6] }
  | _ => none }
def MemberForksWrongFalsely : Prop := memberForksRow.holds Tryz.pinned (OpenSpec.ofChange memberForksWrong)

/-- 'sapwoodlaw22.MemberOnce': WHATEVER THE INPUT: true; the input reads as it did. -/
def memberOnceSpec : ChangeSpec := { name := "memberOnce", fn := fun _ => fun
  | [d1, d2, d3] => { results := [.lit (.bool true)], args := [d1, d2, d3] }
  | _ => none }
def memberOnceRow : OpenClaim := { program := "ythnehnmdcbgjmaagreatdoor", sum := "436b0b0f6d3bbcd73a7710013ce097c3bff25b9bb71e42495d0da7d4ec03f9b8", func := "sapwood/sapwoodlaw22.MemberOnce", spec := "memberOnce", inPlace := ["maps.clone", "math/bits.Add64", "internal/abi.NoEscape", "internal/bytealg.MakeNoZero", "internal/reflectlite.ValueOf", "(internal/reflectlite.Value).Type", "(internal/reflectlite.Value).IsNil", "internal/reflectlite.TypeOf", "(internal/reflectlite.Value).Elem", "(internal/reflectlite.Value).Set"], unfollowed := true, recurses := true, named := ["sapwood/sha.square", "sapwood/sha.cube", "errors.errorType"], apart := false, laid := [("errors.errorType", laid_errors_errorType), ("sapwood/sha.square", laid_sapwood_sha_square), ("sapwood/sha.cube", laid_sapwood_sha_cube)] }
def MemberOnceSaid : Prop := memberOnceRow.holds Tryz.pinned (OpenSpec.ofChange memberOnceSpec)

/-- ITS FALSE NEIGHBOUR: 'it returns false'. Refute it at one input. -/
def memberOnceWrong : ChangeSpec := { name := "memberOnce", fn := fun _ => fun
  | [d1, d2, d3] => { results := [.lit (.bool false)], args := [d1, d2, d3] }
  | _ => none }
def MemberOnceWrongFalsely : Prop := memberOnceRow.holds Tryz.pinned (OpenSpec.ofChange memberOnceWrong)

/- THE SECOND FORM. 'bulk': how many values and letters a reading holds, each counted each time it is reached (what is shared counts as often as it is met; a slice's spare places count too). A statement '..UptoSaid' is the law's where the arguments, and the package variables that the reading takes, are together of bulk at most 1048576: NARROWER than '..Said'. Prove '..Said' where nothing that the law and all that it calls make is longer than what came in: it says more and counts as full. Else prove '..UptoSaid'. A law counts once. -/
mutual
def uptoBulk {H : Type} : DataW H → Nat
  | .lit (.string bytes) => bytes.length + 1
  | .lit _ => 1
  | .nil => 1
  | .ptr d => uptoBulk d + 1
  | .slice elems spare => uptoBulkAll elems + uptoBulkAll spare + 1
  | .agg parts => uptoBulkAll parts + 1
  | .iface _ d => uptoBulk d + 1
  | .map entries => uptoBulkEntries entries + 1
  | .held _ => 1
def uptoBulkAll {H : Type} : List (DataW H) → Nat
  | [] => 0
  | d :: r => uptoBulk d + uptoBulkAll r
def uptoBulkEntries {H : Type} : List (Lit × DataW H) → Nat
  | [] => 0
  | x :: r => uptoBulkEntry x + uptoBulkEntries r
def uptoBulkEntry {H : Type} : Lit × DataW H → Nat
  | (.string bytes, d) => bytes.length + uptoBulk d + 1
  | (_, d) => uptoBulk d + 1
 end
def uptoSmall : (H : Type) → List (DataW H) → Bool := fun _ ds => decide (uptoBulkAll ds ≤ 1048576)
def OpenSpec.upto (s : _root_.Go.ChangeSpec) : _root_.Go.OpenSpec := { _root_.Go.OpenSpec.ofChange s with cond := some uptoSmall }

/-- 'sapwoodlaw21.VaultPlays', WHERE WHAT IT READS IS OF BULK AT MOST 1048576: true; the input reads as it did. -/
def vaultPlaysUptoRow : OpenClaim := { program := "ythnehnmdcbgjmaagreatdoor", sum := "436b0b0f6d3bbcd73a7710013ce097c3bff25b9bb71e42495d0da7d4ec03f9b8", func := "sapwood/sapwoodlaw21.VaultPlays", spec := "vaultPlays", inPlace := ["internal/abi.NoEscape", "internal/bytealg.MakeNoZero", "math/bits.Add64", "internal/reflectlite.ValueOf", "(internal/reflectlite.Value).Type", "(internal/reflectlite.Value).IsNil", "internal/reflectlite.TypeOf", "(internal/reflectlite.Value).Elem", "(internal/reflectlite.Value).Set", "maps.clone"], unfollowed := true, recurses := true, named := ["sapwood/sha.square", "sapwood/sha.cube", "errors.errorType"], apart := false, laid := [("errors.errorType", laid_errors_errorType), ("sapwood/sha.square", laid_sapwood_sha_square), ("sapwood/sha.cube", laid_sapwood_sha_cube)], narrowed := true }
def VaultPlaysUptoSaid : Prop := vaultPlaysUptoRow.holds Tryz.pinned (OpenSpec.upto vaultPlaysSpec)

/-- 'sapwoodlaw21.VaultOnce', WHERE WHAT IT READS IS OF BULK AT MOST 1048576: true; the input reads as it did. -/
def vaultOnceUptoRow : OpenClaim := { program := "ythnehnmdcbgjmaagreatdoor", sum := "436b0b0f6d3bbcd73a7710013ce097c3bff25b9bb71e42495d0da7d4ec03f9b8", func := "sapwood/sapwoodlaw21.VaultOnce", spec := "vaultOnce", inPlace := ["internal/abi.NoEscape", "internal/bytealg.MakeNoZero", "math/bits.Add64", "internal/reflectlite.ValueOf", "(internal/reflectlite.Value).Type", "(internal/reflectlite.Value).IsNil", "internal/reflectlite.TypeOf", "(internal/reflectlite.Value).Elem", "(internal/reflectlite.Value).Set"], unfollowed := true, recurses := true, named := ["sapwood/sha.square", "sapwood/sha.cube", "errors.errorType"], apart := false, laid := [("errors.errorType", laid_errors_errorType), ("sapwood/sha.square", laid_sapwood_sha_square), ("sapwood/sha.cube", laid_sapwood_sha_cube)], narrowed := true }
def VaultOnceUptoSaid : Prop := vaultOnceUptoRow.holds Tryz.pinned (OpenSpec.upto vaultOnceSpec)

/-- 'sapwoodlaw22.MemberPlays', WHERE WHAT IT READS IS OF BULK AT MOST 1048576: true; the input reads as it did. -/
def memberPlaysUptoRow : OpenClaim := { program := "ythnehnmdcbgjmaagreatdoor", sum := "436b0b0f6d3bbcd73a7710013ce097c3bff25b9bb71e42495d0da7d4ec03f9b8", func := "sapwood/sapwoodlaw22.MemberPlays", spec := "memberPlays", inPlace := ["maps.clone", "math/bits.Add64", "internal/abi.NoEscape", "internal/bytealg.MakeNoZero", "internal/reflectlite.ValueOf", "(internal/reflectlite.Value).Type", "(internal/reflectlite.Value).IsNil", "internal/reflectlite.TypeOf", "(internal/reflectlite.Value).Elem", "(internal/reflectlite.Value).Set"], unfollowed := true, recurses := true, named := ["sapwood/sha.square", "sapwood/sha.cube", "errors.errorType"], apart := false, laid := [("errors.errorType", laid_errors_errorType), ("sapwood/sha.square", laid_sapwood_sha_square), ("sapwood/sha.cube", laid_sapwood_sha_cube)], narrowed := true }
def MemberPlaysUptoSaid : Prop := memberPlaysUptoRow.holds Tryz.pinned (OpenSpec.upto memberPlaysSpec)

/-- 'sapwoodlaw22.MemberMeets', WHERE WHAT IT READS IS OF BULK AT MOST 1048576: true; the input reads as it did. -/
def memberMeetsUptoRow : OpenClaim := { program := "ythnehnmdcbgjmaagreatdoor", sum := "436b0b0f6d3bbcd73a7710013ce097c3bff25b9bb71e42495d0da7d4ec03f9b8", func := "sapwood/sapwoodlaw22.MemberMeets", spec := "memberMeets", inPlace := ["maps.clone", "math/bits.Add64", "internal/abi.NoEscape", "internal/bytealg.MakeNoZero", "internal/reflectlite.ValueOf", "(internal/reflectlite.Value).Type", "(internal/reflectlite.Value).IsNil", "internal/reflectlite.TypeOf", "(internal/reflectlite.Value).Elem", "(internal/reflectlite.Value).Set"], unfollowed := true, recurses := true, named := ["sapwood/sha.square", "sapwood/sha.cube", "errors.errorType"], apart := false, laid := [("errors.errorType", laid_errors_errorType), ("sapwood/sha.square", laid_sapwood_sha_square), ("sapwood/sha.cube", laid_sapwood_sha_cube)], narrowed := true }
def MemberMeetsUptoSaid : Prop := memberMeetsUptoRow.holds Tryz.pinned (OpenSpec.upto memberMeetsSpec)

/-- 'sapwoodlaw22.MemberNone', WHERE WHAT IT READS IS OF BULK AT MOST 1048576: true; the input reads as it did. -/
def memberNoneUptoRow : OpenClaim := { program := "ythnehnmdcbgjmaagreatdoor", sum := "436b0b0f6d3bbcd73a7710013ce097c3bff25b9bb71e42495d0da7d4ec03f9b8", func := "sapwood/sapwoodlaw22.MemberNone", spec := "memberNone", inPlace := ["maps.clone", "math/bits.Add64", "internal/abi.NoEscape", "internal/bytealg.MakeNoZero", "internal/reflectlite.TypeOf", "internal/reflectlite.ValueOf", "(internal/reflectlite.Value).Type", "(internal/reflectlite.Value).IsNil", "(internal/reflectlite.Value).Elem", "(internal/reflectlite.Value).Set"], unfollowed := true, recurses := true, named := ["sapwood/sha.square", "sapwood/sha.cube", "errors.errorType"], apart := false, laid := [("errors.errorType", laid_errors_errorType), ("sapwood/sha.square", laid_sapwood_sha_square), ("sapwood/sha.cube", laid_sapwood_sha_cube)], narrowed := true }
def MemberNoneUptoSaid : Prop := memberNoneUptoRow.holds Tryz.pinned (OpenSpec.upto memberNoneSpec)

/-- 'sapwoodlaw22.MemberForks', WHERE WHAT IT READS IS OF BULK AT MOST 1048576: true; the input reads as it did. -/
def memberForksUptoRow : OpenClaim := { program := "ythnehnmdcbgjmaagreatdoor", sum := "436b0b0f6d3bbcd73a7710013ce097c3bff25b9bb71e42495d0da7d4ec03f9b8", func := "sapwood/sapwoodlaw22.MemberForks", spec := "memberForks", inPlace := ["maps.clone", "math/bits.Add64", "internal/abi.NoEscape", "internal/bytealg.MakeNoZero", "internal/reflectlite.ValueOf", "(internal/reflectlite.Value).Type", "(internal/reflectlite.Value).IsNil", "internal/reflectlite.TypeOf", "(internal/reflectlite.Value).Elem", "(internal/reflectlite.Value).Set"], unfollowed := true, recurses := true, named := ["sapwood/sha.square", "sapwood/sha.cube", "errors.errorType"], apart := false, laid := [("errors.errorType", laid_errors_errorType), ("sapwood/sha.square", laid_sapwood_sha_square), ("sapwood/sha.cube", laid_sapwood_sha_cube)], narrowed := true }
def MemberForksUptoSaid : Prop := memberForksUptoRow.holds Tryz.pinned (OpenSpec.upto memberForksSpec)

/-- 'sapwoodlaw22.MemberOnce', WHERE WHAT IT READS IS OF BULK AT MOST 1048576: true; the input reads as it did. -/
def memberOnceUptoRow : OpenClaim := { program := "ythnehnmdcbgjmaagreatdoor", sum := "436b0b0f6d3bbcd73a7710013ce097c3bff25b9bb71e42495d0da7d4ec03f9b8", func := "sapwood/sapwoodlaw22.MemberOnce", spec := "memberOnce", inPlace := ["maps.clone", "math/bits.Add64", "internal/abi.NoEscape", "internal/bytealg.MakeNoZero", "internal/reflectlite.ValueOf", "(internal/reflectlite.Value).Type", "(internal/reflectlite.Value).IsNil", "internal/reflectlite.TypeOf", "(internal/reflectlite.Value).Elem", "(internal/reflectlite.Value).Set"], unfollowed := true, recurses := true, named := ["sapwood/sha.square", "sapwood/sha.cube", "errors.errorType"], apart := false, laid := [("errors.errorType", laid_errors_errorType), ("sapwood/sha.square", laid_sapwood_sha_square), ("sapwood/sha.cube", laid_sapwood_sha_cube)], narrowed := true }
def MemberOnceUptoSaid : Prop := memberOnceUptoRow.holds Tryz.pinned (OpenSpec.upto memberOnceSpec)

end Rows
end Go.Proofs.YthnehnmdcbgjmaaGreatDoor
