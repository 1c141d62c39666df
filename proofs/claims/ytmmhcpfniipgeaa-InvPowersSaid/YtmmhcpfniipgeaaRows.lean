/-
  No cell of these rows narrows 'for every input' (looked for: loops, veiled, ifaces, maps, wideKeys, modest, calm, conditions, laid).
  DERIVED. THE GIVEN ROWS OF THIS SEAT. 15 by the template 'for every input the law returns true; each argument reads behind the call as it read before'; 0 by the template 'total and deterministic' (their statements: YtmmhcpfniipgeaaTotals.lean).
  GIVEN WITH THE SEED: the statements are not yours to turn. If you find one false, say at which input.
  Laid BY PROGRAM, IN A SANDBOX (cutbox-rows.mjs): the forced cells as the released guide's own fill.sh prints them over the translation 4998af46f4df6eab… (all of the seat's roots in one cut). By AI agents, Wed Nov 11 2026. No macro, syntax, notation, axiom, sorry.
-/
import Derived.Test.YtmmhcpfniipgeaaChecked
import GoSem.Claim
import GoSem.ClaimJoined
import GoSem.ClaimMapViews
import Derived.JoinedTies
import Derived.KernelRfl
namespace Go.Proofs.Ytmmhcpfniipgeaa
/- THE CELL 'sum', in the pinned program and in every row, IS THE sha256 OF THE DUMP (.gsa) THAT YtmmhcpfniipgeaaProg.lean LOADS. Nothing in Lean hashes anything: it is a label: what it is worth is what the hold of that sum in a sandbox is worth. -/
noncomputable def Try.pinned : Pinned := { name := "ytmmhcpfniipgeaa", sum := "4998af46f4df6eab14373cbf937ffb48aff12081d9f4f27eb4d58db2bbaee44f", checked := Try.checked }
namespace Rows
def none {H : Type} : Left H := { results := [], args := [] }

/-- 'sapwoodlaw01.CtCompares': WHATEVER THE INPUT: true; the input reads as it did. -/
def ctComparesSpec : ChangeSpec := { name := "ctCompares", fn := fun _ => fun
  | [d1, d2, d3, d4] => { results := [.lit (.bool true)], args := [d1, d2, d3, d4] }
  | _ => none }
def ctComparesRow : OpenClaim := { program := "ytmmhcpfniipgeaa", sum := "4998af46f4df6eab14373cbf937ffb48aff12081d9f4f27eb4d58db2bbaee44f", func := "sapwood/sapwoodlaw01.CtCompares", spec := "ctCompares", inPlace := ["internal/abi.NoEscape", "internal/bytealg.MakeNoZero"], apart := false }
def CtComparesSaid : Prop := ctComparesRow.holds Try.pinned (OpenSpec.ofChange ctComparesSpec)

/-- ITS FALSE NEIGHBOUR: 'it returns false'. Refute it at one input. -/
def ctComparesWrong : ChangeSpec := { name := "ctCompares", fn := fun _ => fun
  | [d1, d2, d3, d4] => { results := [.lit (.bool false)], args := [d1, d2, d3, d4] }
  | _ => none }
def CtComparesWrongFalsely : Prop := ctComparesRow.holds Try.pinned (OpenSpec.ofChange ctComparesWrong)

/-- 'sapwoodlaw01.CtPicks': WHATEVER THE INPUT: true; the input reads as it did. -/
def ctPicksSpec : ChangeSpec := { name := "ctPicks", fn := fun _ => fun
  | [d1, d2, d3] => { results := [.lit (.bool true)], args := [d1, d2, d3] }
  | _ => none }
def ctPicksRow : OpenClaim := { program := "ytmmhcpfniipgeaa", sum := "4998af46f4df6eab14373cbf937ffb48aff12081d9f4f27eb4d58db2bbaee44f", func := "sapwood/sapwoodlaw01.CtPicks", spec := "ctPicks", inPlace := ["internal/abi.NoEscape", "internal/bytealg.MakeNoZero"], apart := false }
def CtPicksSaid : Prop := ctPicksRow.holds Try.pinned (OpenSpec.ofChange ctPicksSpec)

/-- ITS FALSE NEIGHBOUR: 'it returns false'. Refute it at one input. -/
def ctPicksWrong : ChangeSpec := { name := "ctPicks", fn := fun _ => fun
  | [d1, d2, d3] => { results := [.lit (.bool false)], args := [d1, d2, d3] }
  | _ => none }
def CtPicksWrongFalsely : Prop := ctPicksRow.holds Try.pinned (OpenSpec.ofChange ctPicksWrong)

/-- 'sapwoodlaw01.CtOnce': WHATEVER THE INPUT: true; the input reads as it did. -/
def ctOnceSpec : ChangeSpec := { name := "ctOnce", fn := fun _ => fun
  | [d1, d2, d3, d4, d5] => { results := [.lit (.bool true)], args := [d1, d2, d3, d4, d5] }
  | _ => none }
def ctOnceRow : OpenClaim := { program := "ytmmhcpfniipgeaa", sum := "4998af46f4df6eab14373cbf937ffb48aff12081d9f4f27eb4d58db2bbaee44f", func := "sapwood/sapwoodlaw01.CtOnce", spec := "ctOnce", inPlace := ["internal/abi.NoEscape", "internal/bytealg.MakeNoZero"], apart := false }
def CtOnceSaid : Prop := ctOnceRow.holds Try.pinned (OpenSpec.ofChange ctOnceSpec)

/-- ITS FALSE NEIGHBOUR: 'it returns false'. Refute it at one input. -/
def ctOnceWrong : ChangeSpec := { name := "ctOnce", fn := fun _ => fun
  | [d1, d2, d3, d4, d5] => { results := [.lit (.bool false)], args := [d1, d2, d3, d4, d5] }
  | _ => none }
def CtOnceWrongFalsely : Prop := ctOnceRow.holds Try.pinned (OpenSpec.ofChange ctOnceWrong)

/-- 'sapwoodlaw02.LimbReads': WHATEVER THE INPUT: true; the input reads as it did. -/
def limbReadsSpec : ChangeSpec := { name := "limbReads", fn := fun _ => fun
  | [d1, d2, d3] => { results := [.lit (.bool true)], args := [d1, d2, d3] }
  | _ => none }
def limbReadsRow : OpenClaim := { program := "ytmmhcpfniipgeaa", sum := "4998af46f4df6eab14373cbf937ffb48aff12081d9f4f27eb4d58db2bbaee44f", func := "sapwood/sapwoodlaw02.LimbReads", spec := "limbReads", inPlace := ["internal/abi.NoEscape", "internal/bytealg.MakeNoZero"], apart := false }
def LimbReadsSaid : Prop := limbReadsRow.holds Try.pinned (OpenSpec.ofChange limbReadsSpec)

/-- ITS FALSE NEIGHBOUR: 'it returns false'. Refute it at one input. -/
def limbReadsWrong : ChangeSpec := { name := "limbReads", fn := fun _ => fun
  | [d1, d2, d3] => { results := [.lit (.bool false)], args := [d1, d2, d3] }
  | _ => none }
def LimbReadsWrongFalsely : Prop := limbReadsRow.holds Try.pinned (OpenSpec.ofChange limbReadsWrong)

/-- 'sapwoodlaw02.LimbAdds': WHATEVER THE INPUT: true; the input reads as it did. -/
def limbAddsSpec : ChangeSpec := { name := "limbAdds", fn := fun _ => fun
  | [d1, d2, d3] => { results := [.lit (.bool true)], args := [d1, d2, d3] }
  | _ => none }
def limbAddsRow : OpenClaim := { program := "ytmmhcpfniipgeaa", sum := "4998af46f4df6eab14373cbf937ffb48aff12081d9f4f27eb4d58db2bbaee44f", func := "sapwood/sapwoodlaw02.LimbAdds", spec := "limbAdds", inPlace := ["internal/abi.NoEscape", "internal/bytealg.MakeNoZero"], apart := false }
def LimbAddsSaid : Prop := limbAddsRow.holds Try.pinned (OpenSpec.ofChange limbAddsSpec)

/-- ITS FALSE NEIGHBOUR: 'it returns false'. Refute it at one input. -/
def limbAddsWrong : ChangeSpec := { name := "limbAdds", fn := fun _ => fun
  | [d1, d2, d3] => { results := [.lit (.bool false)], args := [d1, d2, d3] }
  | _ => none }
def LimbAddsWrongFalsely : Prop := limbAddsRow.holds Try.pinned (OpenSpec.ofChange limbAddsWrong)

/-- 'sapwoodlaw02.LimbLaws': WHATEVER THE INPUT: true; the input reads as it did. -/
def limbLawsSpec : ChangeSpec := { name := "limbLaws", fn := fun _ => fun
  | [d1, d2, d3] => { results := [.lit (.bool true)], args := [d1, d2, d3] }
  | _ => none }
def limbLawsRow : OpenClaim := { program := "ytmmhcpfniipgeaa", sum := "4998af46f4df6eab14373cbf937ffb48aff12081d9f4f27eb4d58db2bbaee44f", func := "sapwood/sapwoodlaw02.LimbLaws", spec := "limbLaws", inPlace := ["internal/abi.NoEscape", "internal/bytealg.MakeNoZero"], apart := false }
def LimbLawsSaid : Prop := limbLawsRow.holds Try.pinned (OpenSpec.ofChange limbLawsSpec)

/-- ITS FALSE NEIGHBOUR: 'it returns false'. Refute it at one input. -/
def limbLawsWrong : ChangeSpec := { name := "limbLaws", fn := fun _ => fun
  | [d1, d2, d3] => { results := [.lit (.bool false)], args := [d1, d2, d3] }
  | _ => none }
def LimbLawsWrongFalsely : Prop := limbLawsRow.holds Try.pinned (OpenSpec.ofChange limbLawsWrong)

/-- 'sapwoodlaw02.LimbModulus': WHATEVER THE INPUT: true; the input reads as it did. -/
def limbModulusSpec : ChangeSpec := { name := "limbModulus", fn := fun _ => fun
  | [d1, d2] => { results := [.lit (.bool true)], args := [d1, d2] }
  | _ => none }
def limbModulusRow : OpenClaim := { program := "ytmmhcpfniipgeaa", sum := "4998af46f4df6eab14373cbf937ffb48aff12081d9f4f27eb4d58db2bbaee44f", func := "sapwood/sapwoodlaw02.LimbModulus", spec := "limbModulus", inPlace := ["internal/abi.NoEscape", "internal/bytealg.MakeNoZero"], apart := false }
def LimbModulusSaid : Prop := limbModulusRow.holds Try.pinned (OpenSpec.ofChange limbModulusSpec)

/-- ITS FALSE NEIGHBOUR: 'it returns false'. Refute it at one input. -/
def limbModulusWrong : ChangeSpec := { name := "limbModulus", fn := fun _ => fun
  | [d1, d2] => { results := [.lit (.bool false)], args := [d1, d2] }
  | _ => none }
def LimbModulusWrongFalsely : Prop := limbModulusRow.holds Try.pinned (OpenSpec.ofChange limbModulusWrong)

/-- 'sapwoodlaw03.MulfMakes': WHATEVER THE INPUT: true; the input reads as it did. -/
def mulfMakesSpec : ChangeSpec := { name := "mulfMakes", fn := fun _ => fun
  | [d1, d2, d3, d4] => { results := [.lit (.bool true)], args := [d1, d2, d3, d4] }
  | _ => none }
def mulfMakesRow : OpenClaim := { program := "ytmmhcpfniipgeaa", sum := "4998af46f4df6eab14373cbf937ffb48aff12081d9f4f27eb4d58db2bbaee44f", func := "sapwood/sapwoodlaw03.MulfMakes", spec := "mulfMakes", inPlace := ["internal/abi.NoEscape", "internal/bytealg.MakeNoZero", "math/bits.Add64"], apart := false }
def MulfMakesSaid : Prop := mulfMakesRow.holds Try.pinned (OpenSpec.ofChange mulfMakesSpec)

/-- ITS FALSE NEIGHBOUR: 'it returns false'. Refute it at one input. -/
def mulfMakesWrong : ChangeSpec := { name := "mulfMakes", fn := fun _ => fun
  | [d1, d2, d3, d4] => { results := [.lit (.bool false)], args := [d1, d2, d3, d4] }
  | _ => none }
def MulfMakesWrongFalsely : Prop := mulfMakesRow.holds Try.pinned (OpenSpec.ofChange mulfMakesWrong)

/-- 'sapwoodlaw03.MulfLaws': WHATEVER THE INPUT: true; the input reads as it did. -/
def mulfLawsSpec : ChangeSpec := { name := "mulfLaws", fn := fun _ => fun
  | [d1, d2, d3] => { results := [.lit (.bool true)], args := [d1, d2, d3] }
  | _ => none }
def mulfLawsRow : OpenClaim := { program := "ytmmhcpfniipgeaa", sum := "4998af46f4df6eab14373cbf937ffb48aff12081d9f4f27eb4d58db2bbaee44f", func := "sapwood/sapwoodlaw03.MulfLaws", spec := "mulfLaws", inPlace := ["internal/abi.NoEscape", "internal/bytealg.MakeNoZero", "math/bits.Add64"], apart := false }
def MulfLawsSaid : Prop := mulfLawsRow.holds Try.pinned (OpenSpec.ofChange mulfLawsSpec)

/-- ITS FALSE NEIGHBOUR: 'it returns false'. Refute it at one input. -/
def mulfLawsWrong : ChangeSpec := { name := "mulfLaws", fn := fun _ => fun
  | [d1, d2, d3] => { results := [.lit (.bool false)], args := [d1, d2, d3] }
  | _ => none }
def MulfLawsWrongFalsely : Prop := mulfLawsRow.holds Try.pinned (OpenSpec.ofChange mulfLawsWrong)

/-- 'sapwoodlaw03.MulfAlike': WHATEVER THE INPUT: true; the input reads as it did. -/
def mulfAlikeSpec : ChangeSpec := { name := "mulfAlike", fn := fun _ => fun
  | [d1, d2] => { results := [.lit (.bool true)], args := [d1, d2] }
  | _ => none }
def mulfAlikeRow : OpenClaim := { program := "ytmmhcpfniipgeaa", sum := "4998af46f4df6eab14373cbf937ffb48aff12081d9f4f27eb4d58db2bbaee44f", func := "sapwood/sapwoodlaw03.MulfAlike", spec := "mulfAlike", inPlace := ["internal/abi.NoEscape", "internal/bytealg.MakeNoZero", "math/bits.Add64"], apart := false }
def MulfAlikeSaid : Prop := mulfAlikeRow.holds Try.pinned (OpenSpec.ofChange mulfAlikeSpec)

/-- ITS FALSE NEIGHBOUR: 'it returns false'. Refute it at one input. -/
def mulfAlikeWrong : ChangeSpec := { name := "mulfAlike", fn := fun _ => fun
  | [d1, d2] => { results := [.lit (.bool false)], args := [d1, d2] }
  | _ => none }
def MulfAlikeWrongFalsely : Prop := mulfAlikeRow.holds Try.pinned (OpenSpec.ofChange mulfAlikeWrong)

/-- 'sapwoodlaw03.MulfFactors': WHATEVER THE INPUT: true; the input reads as it did. -/
def mulfFactorsSpec : ChangeSpec := { name := "mulfFactors", fn := fun _ => fun
  | [d1, d2] => { results := [.lit (.bool true)], args := [d1, d2] }
  | _ => none }
def mulfFactorsRow : OpenClaim := { program := "ytmmhcpfniipgeaa", sum := "4998af46f4df6eab14373cbf937ffb48aff12081d9f4f27eb4d58db2bbaee44f", func := "sapwood/sapwoodlaw03.MulfFactors", spec := "mulfFactors", inPlace := ["internal/abi.NoEscape", "internal/bytealg.MakeNoZero", "math/bits.Add64"], apart := false }
def MulfFactorsSaid : Prop := mulfFactorsRow.holds Try.pinned (OpenSpec.ofChange mulfFactorsSpec)

/-- ITS FALSE NEIGHBOUR: 'it returns false'. Refute it at one input. -/
def mulfFactorsWrong : ChangeSpec := { name := "mulfFactors", fn := fun _ => fun
  | [d1, d2] => { results := [.lit (.bool false)], args := [d1, d2] }
  | _ => none }
def MulfFactorsWrongFalsely : Prop := mulfFactorsRow.holds Try.pinned (OpenSpec.ofChange mulfFactorsWrong)

/-- 'sapwoodlaw04.InvMakes': WHATEVER THE INPUT: true; the input reads as it did. -/
def invMakesSpec : ChangeSpec := { name := "invMakes", fn := fun _ => fun
  | [d1, d2, d3, d4] => { results := [.lit (.bool true)], args := [d1, d2, d3, d4] }
  | _ => none }
def invMakesRow : OpenClaim := { program := "ytmmhcpfniipgeaa", sum := "4998af46f4df6eab14373cbf937ffb48aff12081d9f4f27eb4d58db2bbaee44f", func := "sapwood/sapwoodlaw04.InvMakes", spec := "invMakes", inPlace := ["internal/abi.NoEscape", "internal/bytealg.MakeNoZero", "math/bits.Add64"], apart := false }
def InvMakesSaid : Prop := invMakesRow.holds Try.pinned (OpenSpec.ofChange invMakesSpec)

/-- ITS FALSE NEIGHBOUR: 'it returns false'. Refute it at one input. -/
def invMakesWrong : ChangeSpec := { name := "invMakes", fn := fun _ => fun
  | [d1, d2, d3, d4] => { results := [.lit (.bool false)], args := [d1, d2, d3, d4] }
  | _ => none }
def InvMakesWrongFalsely : Prop := invMakesRow.holds Try.pinned (OpenSpec.ofChange invMakesWrong)

/-- 'sapwoodlaw04.InvUndoes': WHATEVER THE INPUT: true; the input reads as it did. -/
def invUndoesSpec : ChangeSpec := { name := "invUndoes", fn := fun _ => fun
  | [d1, d2] => { results := [.lit (.bool true)], args := [d1, d2] }
  | _ => none }
def invUndoesRow : OpenClaim := { program := "ytmmhcpfniipgeaa", sum := "4998af46f4df6eab14373cbf937ffb48aff12081d9f4f27eb4d58db2bbaee44f", func := "sapwood/sapwoodlaw04.InvUndoes", spec := "invUndoes", inPlace := ["internal/abi.NoEscape", "internal/bytealg.MakeNoZero", "math/bits.Add64"], apart := false }
def InvUndoesSaid : Prop := invUndoesRow.holds Try.pinned (OpenSpec.ofChange invUndoesSpec)

/-- ITS FALSE NEIGHBOUR: 'it returns false'. Refute it at one input. -/
def invUndoesWrong : ChangeSpec := { name := "invUndoes", fn := fun _ => fun
  | [d1, d2] => { results := [.lit (.bool false)], args := [d1, d2] }
  | _ => none }
def InvUndoesWrongFalsely : Prop := invUndoesRow.holds Try.pinned (OpenSpec.ofChange invUndoesWrong)

/-- 'sapwoodlaw04.InvPowers': WHATEVER THE INPUT: true; the input reads as it did. -/
def invPowersSpec : ChangeSpec := { name := "invPowers", fn := fun _ => fun
  | [d1, d2, d3] => { results := [.lit (.bool true)], args := [d1, d2, d3] }
  | _ => none }
def invPowersRow : OpenClaim := { program := "ytmmhcpfniipgeaa", sum := "4998af46f4df6eab14373cbf937ffb48aff12081d9f4f27eb4d58db2bbaee44f", func := "sapwood/sapwoodlaw04.InvPowers", spec := "invPowers", inPlace := ["internal/abi.NoEscape", "internal/bytealg.MakeNoZero", "math/bits.Add64"], unfollowed := true, recurses := true, apart := false }
def InvPowersSaid : Prop := invPowersRow.holds Try.pinned (OpenSpec.ofChange invPowersSpec)

/-- ITS FALSE NEIGHBOUR: 'it returns false'. Refute it at one input. -/
def invPowersWrong : ChangeSpec := { name := "invPowers", fn := fun _ => fun
  | [d1, d2, d3] => { results := [.lit (.bool false)], args := [d1, d2, d3] }
  | _ => none }
def InvPowersWrongFalsely : Prop := invPowersRow.holds Try.pinned (OpenSpec.ofChange invPowersWrong)

/-- 'sapwoodlaw04.InvSwaps': WHATEVER THE INPUT: true; the input reads as it did. -/
def invSwapsSpec : ChangeSpec := { name := "invSwaps", fn := fun _ => fun
  | [d1, d2, d3] => { results := [.lit (.bool true)], args := [d1, d2, d3] }
  | _ => none }
def invSwapsRow : OpenClaim := { program := "ytmmhcpfniipgeaa", sum := "4998af46f4df6eab14373cbf937ffb48aff12081d9f4f27eb4d58db2bbaee44f", func := "sapwood/sapwoodlaw04.InvSwaps", spec := "invSwaps", inPlace := ["internal/abi.NoEscape", "internal/bytealg.MakeNoZero", "math/bits.Add64"], apart := false }
def InvSwapsSaid : Prop := invSwapsRow.holds Try.pinned (OpenSpec.ofChange invSwapsSpec)

/-- ITS FALSE NEIGHBOUR: 'it returns false'. Refute it at one input. -/
def invSwapsWrong : ChangeSpec := { name := "invSwaps", fn := fun _ => fun
  | [d1, d2, d3] => { results := [.lit (.bool false)], args := [d1, d2, d3] }
  | _ => none }
def InvSwapsWrongFalsely : Prop := invSwapsRow.holds Try.pinned (OpenSpec.ofChange invSwapsWrong)

/- THE SECOND FORM. 'bulk': how many values and letters a reading holds, each counted each time it is reached (what is shared counts as often as it is met; a slice's spare places count too). A statement '..UptoSaid' is the law's where the arguments, and the package variables that the reading takes, are together of bulk at most 1048576: NARROWER than '..Said'. Prove '..Said' where nothing that the law and all that it calls make is longer than what came in: it says more and counts as full. Else prove '..UptoSaid'. A law counts once. -/
mutual
def uptoBulk {H : Type} : DataW H → Nat
  | .lit (.string bytes) => bytes.length + 1
  | .lit _ => 1
  | .nil => 1
  | .ptr d => uptoBulk d + 1
  | .slice elems spare => uptoBulkAll elems + uptoBulkAll spare + 1
  | .agg parts => uptoBulkAll parts + 1
  | .iface _ d => uptoBulk d + 1
  | .map entries => uptoBulkEntries entries + 1
  | .held _ => 1
def uptoBulkAll {H : Type} : List (DataW H) → Nat
  | [] => 0
  | d :: r => uptoBulk d + uptoBulkAll r
def uptoBulkEntries {H : Type} : List (Lit × DataW H) → Nat
  | [] => 0
  | x :: r => uptoBulkEntry x + uptoBulkEntries r
def uptoBulkEntry {H : Type} : Lit × DataW H → Nat
  | (.string bytes, d) => bytes.length + uptoBulk d + 1
  | (_, d) => uptoBulk d + 1
 end
def uptoSmall : (H : Type) → List (DataW H) → Bool := fun _ ds => decide (uptoBulkAll ds ≤ 1048576)
def OpenSpec.upto (s : _root_.Go.ChangeSpec) : _root_.Go.OpenSpec := { _root_.Go.OpenSpec.ofChange s with cond := some uptoSmall }

/-- 'sapwoodlaw01.CtCompares', WHERE WHAT IT READS IS OF BULK AT MOST 1048576: true; the input reads as it did. -/
def ctComparesUptoRow : OpenClaim := { program := "ytmmhcpfniipgeaa", sum := "4998af46f4df6eab14373cbf937ffb48aff12081d9f4f27eb4d58db2bbaee44f", func := "sapwood/sapwoodlaw01.CtCompares", spec := "ctCompares", inPlace := ["internal/abi.NoEscape", "internal/bytealg.MakeNoZero"], apart := false, narrowed := true }
def CtComparesUptoSaid : Prop := ctComparesUptoRow.holds Try.pinned (OpenSpec.upto ctComparesSpec)

/-- 'sapwoodlaw01.CtPicks', WHERE WHAT IT READS IS OF BULK AT MOST 1048576: true; the input reads as it did. -/
def ctPicksUptoRow : OpenClaim := { program := "ytmmhcpfniipgeaa", sum := "4998af46f4df6eab14373cbf937ffb48aff12081d9f4f27eb4d58db2bbaee44f", func := "sapwood/sapwoodlaw01.CtPicks", spec := "ctPicks", inPlace := ["internal/abi.NoEscape", "internal/bytealg.MakeNoZero"], apart := false, narrowed := true }
def CtPicksUptoSaid : Prop := ctPicksUptoRow.holds Try.pinned (OpenSpec.upto ctPicksSpec)

/-- 'sapwoodlaw01.CtOnce', WHERE WHAT IT READS IS OF BULK AT MOST 1048576: true; the input reads as it did. -/
def ctOnceUptoRow : OpenClaim := { program := "ytmmhcpfniipgeaa", sum := "4998af46f4df6eab14373cbf937ffb48aff12081d9f4f27eb4d58db2bbaee44f", func := "sapwood/sapwoodlaw01.CtOnce", spec := "ctOnce", inPlace := ["internal/abi.NoEscape", "internal/bytealg.MakeNoZero"], apart := false, narrowed := true }
def CtOnceUptoSaid : Prop := ctOnceUptoRow.holds Try.pinned (OpenSpec.upto ctOnceSpec)

/-- 'sapwoodlaw02.LimbReads', WHERE WHAT IT READS IS OF BULK AT MOST 1048576: true; the input reads as it did. -/
def limbReadsUptoRow : OpenClaim := { program := "ytmmhcpfniipgeaa", sum := "4998af46f4df6eab14373cbf937ffb48aff12081d9f4f27eb4d58db2bbaee44f", func := "sapwood/sapwoodlaw02.LimbReads", spec := "limbReads", inPlace := ["internal/abi.NoEscape", "internal/bytealg.MakeNoZero"], apart := false, narrowed := true }
def LimbReadsUptoSaid : Prop := limbReadsUptoRow.holds Try.pinned (OpenSpec.upto limbReadsSpec)

/-- 'sapwoodlaw02.LimbAdds', WHERE WHAT IT READS IS OF BULK AT MOST 1048576: true; the input reads as it did. -/
def limbAddsUptoRow : OpenClaim := { program := "ytmmhcpfniipgeaa", sum := "4998af46f4df6eab14373cbf937ffb48aff12081d9f4f27eb4d58db2bbaee44f", func := "sapwood/sapwoodlaw02.LimbAdds", spec := "limbAdds", inPlace := ["internal/abi.NoEscape", "internal/bytealg.MakeNoZero"], apart := false, narrowed := true }
def LimbAddsUptoSaid : Prop := limbAddsUptoRow.holds Try.pinned (OpenSpec.upto limbAddsSpec)

/-- 'sapwoodlaw02.LimbLaws', WHERE WHAT IT READS IS OF BULK AT MOST 1048576: true; the input reads as it did. -/
def limbLawsUptoRow : OpenClaim := { program := "ytmmhcpfniipgeaa", sum := "4998af46f4df6eab14373cbf937ffb48aff12081d9f4f27eb4d58db2bbaee44f", func := "sapwood/sapwoodlaw02.LimbLaws", spec := "limbLaws", inPlace := ["internal/abi.NoEscape", "internal/bytealg.MakeNoZero"], apart := false, narrowed := true }
def LimbLawsUptoSaid : Prop := limbLawsUptoRow.holds Try.pinned (OpenSpec.upto limbLawsSpec)

/-- 'sapwoodlaw02.LimbModulus', WHERE WHAT IT READS IS OF BULK AT MOST 1048576: true; the input reads as it did. -/
def limbModulusUptoRow : OpenClaim := { program := "ytmmhcpfniipgeaa", sum := "4998af46f4df6eab14373cbf937ffb48aff12081d9f4f27eb4d58db2bbaee44f", func := "sapwood/sapwoodlaw02.LimbModulus", spec := "limbModulus", inPlace := ["internal/abi.NoEscape", "internal/bytealg.MakeNoZero"], apart := false, narrowed := true }
def LimbModulusUptoSaid : Prop := limbModulusUptoRow.holds Try.pinned (OpenSpec.upto limbModulusSpec)

/-- 'sapwoodlaw03.MulfMakes', WHERE WHAT IT READS IS OF BULK AT MOST 1048576: true; the input reads as it did. -/
def mulfMakesUptoRow : OpenClaim := { program := "ytmmhcpfniipgeaa", sum := "4998af46f4df6eab14373cbf937ffb48aff12081d9f4f27eb4d58db2bbaee44f", func := "sapwood/sapwoodlaw03.MulfMakes", spec := "mulfMakes", inPlace := ["internal/abi.NoEscape", "internal/bytealg.MakeNoZero", "math/bits.Add64"], apart := false, narrowed := true }
def MulfMakesUptoSaid : Prop := mulfMakesUptoRow.holds Try.pinned (OpenSpec.upto mulfMakesSpec)

/-- 'sapwoodlaw03.MulfLaws', WHERE WHAT IT READS IS OF BULK AT MOST 1048576: true; the input reads as it did. -/
def mulfLawsUptoRow : OpenClaim := { program := "ytmmhcpfniipgeaa", sum := "4998af46f4df6eab14373cbf937ffb48aff12081d9f4f27eb4d58db2bbaee44f", func := "sapwood/sapwoodlaw03.MulfLaws", spec := "mulfLaws", inPlace := ["internal/abi.NoEscape", "internal/bytealg.MakeNoZero", "math/bits.Add64"], apart := false, narrowed := true }
def MulfLawsUptoSaid : Prop := mulfLawsUptoRow.holds Try.pinned (OpenSpec.upto mulfLawsSpec)

/-- 'sapwoodlaw03.MulfAlike', WHERE WHAT IT READS IS OF BULK AT MOST 1048576: true; the input reads as it did. -/
def mulfAlikeUptoRow : OpenClaim := { program := "ytmmhcpfniipgeaa", sum := "4998af46f4df6eab14373cbf937ffb48aff12081d9f4f27eb4d58db2bbaee44f", func := "sapwood/sapwoodlaw03.MulfAlike", spec := "mulfAlike", inPlace := ["internal/abi.NoEscape", "internal/bytealg.MakeNoZero", "math/bits.Add64"], apart := false, narrowed := true }
def MulfAlikeUptoSaid : Prop := mulfAlikeUptoRow.holds Try.pinned (OpenSpec.upto mulfAlikeSpec)

/-- 'sapwoodlaw03.MulfFactors', WHERE WHAT IT READS IS OF BULK AT MOST 1048576: true; the input reads as it did. -/
def mulfFactorsUptoRow : OpenClaim := { program := "ytmmhcpfniipgeaa", sum := "4998af46f4df6eab14373cbf937ffb48aff12081d9f4f27eb4d58db2bbaee44f", func := "sapwood/sapwoodlaw03.MulfFactors", spec := "mulfFactors", inPlace := ["internal/abi.NoEscape", "internal/bytealg.MakeNoZero", "math/bits.Add64"], apart := false, narrowed := true }
def MulfFactorsUptoSaid : Prop := mulfFactorsUptoRow.holds Try.pinned (OpenSpec.upto mulfFactorsSpec)

/-- 'sapwoodlaw04.InvMakes', WHERE WHAT IT READS IS OF BULK AT MOST 1048576: true; the input reads as it did. -/
def invMakesUptoRow : OpenClaim := { program := "ytmmhcpfniipgeaa", sum := "4998af46f4df6eab14373cbf937ffb48aff12081d9f4f27eb4d58db2bbaee44f", func := "sapwood/sapwoodlaw04.InvMakes", spec := "invMakes", inPlace := ["internal/abi.NoEscape", "internal/bytealg.MakeNoZero", "math/bits.Add64"], apart := false, narrowed := true }
def InvMakesUptoSaid : Prop := invMakesUptoRow.holds Try.pinned (OpenSpec.upto invMakesSpec)

/-- 'sapwoodlaw04.InvUndoes', WHERE WHAT IT READS IS OF BULK AT MOST 1048576: true; the input reads as it did. -/
def invUndoesUptoRow : OpenClaim := { program := "ytmmhcpfniipgeaa", sum := "4998af46f4df6eab14373cbf937ffb48aff12081d9f4f27eb4d58db2bbaee44f", func := "sapwood/sapwoodlaw04.InvUndoes", spec := "invUndoes", inPlace := ["internal/abi.NoEscape", "internal/bytealg.MakeNoZero", "math/bits.Add64"], apart := false, narrowed := true }
def InvUndoesUptoSaid : Prop := invUndoesUptoRow.holds Try.pinned (OpenSpec.upto invUndoesSpec)

/-- 'sapwoodlaw04.InvPowers', WHERE WHAT IT READS IS OF BULK AT MOST 1048576: true; the input reads as it did. -/
def invPowersUptoRow : OpenClaim := { program := "ytmmhcpfniipgeaa", sum := "4998af46f4df6eab14373cbf937ffb48aff12081d9f4f27eb4d58db2bbaee44f", func := "sapwood/sapwoodlaw04.InvPowers", spec := "invPowers", inPlace := ["internal/abi.NoEscape", "internal/bytealg.MakeNoZero", "math/bits.Add64"], unfollowed := true, recurses := true, apart := false, narrowed := true }
def InvPowersUptoSaid : Prop := invPowersUptoRow.holds Try.pinned (OpenSpec.upto invPowersSpec)

/-- 'sapwoodlaw04.InvSwaps', WHERE WHAT IT READS IS OF BULK AT MOST 1048576: true; the input reads as it did. -/
def invSwapsUptoRow : OpenClaim := { program := "ytmmhcpfniipgeaa", sum := "4998af46f4df6eab14373cbf937ffb48aff12081d9f4f27eb4d58db2bbaee44f", func := "sapwood/sapwoodlaw04.InvSwaps", spec := "invSwaps", inPlace := ["internal/abi.NoEscape", "internal/bytealg.MakeNoZero", "math/bits.Add64"], apart := false, narrowed := true }
def InvSwapsUptoSaid : Prop := invSwapsUptoRow.holds Try.pinned (OpenSpec.upto invSwapsSpec)

end Rows
end Go.Proofs.Ytmmhcpfniipgeaa
