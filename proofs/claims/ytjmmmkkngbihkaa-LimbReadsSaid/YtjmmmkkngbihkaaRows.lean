/-
  No cell of these rows narrows 'for every input' (looked for: loops, veiled, ifaces, maps, wideKeys, modest, calm, conditions, laid).
  DERIVED. THE GIVEN ROWS OF THIS SEAT. 7 by the template 'for every input the law returns true; each argument reads behind the call as it read before'; 0 by the template 'total and deterministic' (their statements: YtjmmmkkngbihkaaTotals.lean).
  GIVEN WITH THE SEED: the statements are not yours to turn. If you find one false, say at which input.
  Laid BY PROGRAM, IN A SANDBOX (cutbox-rows.mjs): the forced cells as the released guide's own fill.sh prints them over the translation bda5e0f432c710ee… (all of the seat's roots in one cut). By AI agents, Wed Nov 11 2026. No macro, syntax, notation, axiom, sorry.
-/
import Derived.Test.YtjmmmkkngbihkaaChecked
import GoSem.Claim
import GoSem.ClaimJoined
import GoSem.ClaimMapViews
import Derived.JoinedTies
import Derived.KernelRfl
namespace Go.Proofs.Ytjmmmkkngbihkaa
/- THE CELL 'sum', in the pinned program and in every row, IS THE sha256 OF THE DUMP (.gsa) THAT YtjmmmkkngbihkaaProg.lean LOADS. Nothing in Lean hashes anything: it is a label: what it is worth is what the hold of that sum in a sandbox is worth. -/
noncomputable def Try.pinned : Pinned := { name := "ytjmmmkkngbihkaa", sum := "bda5e0f432c710eee7442cc87ab8b5d1a768eb635496832742ca81b7ff424d5b", checked := Try.checked }
namespace Rows
def none {H : Type} : Left H := { results := [], args := [] }

/-- 'sapwoodlaw01.CtCompares': WHATEVER THE INPUT: true; the input reads as it did. -/
def ctComparesSpec : ChangeSpec := { name := "ctCompares", fn := fun _ => fun
  | [d1, d2, d3, d4] => { results := [.lit (.bool true)], args := [d1, d2, d3, d4] }
  | _ => none }
def ctComparesRow : OpenClaim := { program := "ytjmmmkkngbihkaa", sum := "bda5e0f432c710eee7442cc87ab8b5d1a768eb635496832742ca81b7ff424d5b", func := "sapwood/sapwoodlaw01.CtCompares", spec := "ctCompares", inPlace := ["internal/abi.NoEscape", "internal/bytealg.MakeNoZero"], apart := false }
def CtComparesSaid : Prop := ctComparesRow.holds Try.pinned (OpenSpec.ofChange ctComparesSpec)

/-- ITS FALSE NEIGHBOUR: 'it returns false'. Refute it at one input. -/
def ctComparesWrong : ChangeSpec := { name := "ctCompares", fn := fun _ => fun
  | [d1, d2, d3, d4] => { results := [.lit (.bool false)], args := [d1, d2, d3, d4] }
  | _ => none }
def CtComparesWrongFalsely : Prop := ctComparesRow.holds Try.pinned (OpenSpec.ofChange ctComparesWrong)

/-- 'sapwoodlaw01.CtPicks': WHATEVER THE INPUT: true; the input reads as it did. -/
def ctPicksSpec : ChangeSpec := { name := "ctPicks", fn := fun _ => fun
  | [d1, d2, d3] => { results := [.lit (.bool true)], args := [d1, d2, d3] }
  | _ => none }
def ctPicksRow : OpenClaim := { program := "ytjmmmkkngbihkaa", sum := "bda5e0f432c710eee7442cc87ab8b5d1a768eb635496832742ca81b7ff424d5b", func := "sapwood/sapwoodlaw01.CtPicks", spec := "ctPicks", inPlace := ["internal/abi.NoEscape", "internal/bytealg.MakeNoZero"], apart := false }
def CtPicksSaid : Prop := ctPicksRow.holds Try.pinned (OpenSpec.ofChange ctPicksSpec)

/-- ITS FALSE NEIGHBOUR: 'it returns false'. Refute it at one input. -/
def ctPicksWrong : ChangeSpec := { name := "ctPicks", fn := fun _ => fun
  | [d1, d2, d3] => { results := [.lit (.bool false)], args := [d1, d2, d3] }
  | _ => none }
def CtPicksWrongFalsely : Prop := ctPicksRow.holds Try.pinned (OpenSpec.ofChange ctPicksWrong)

/-- 'sapwoodlaw01.CtOnce': WHATEVER THE INPUT: true; the input reads as it did. -/
def ctOnceSpec : ChangeSpec := { name := "ctOnce", fn := fun _ => fun
  | [d1, d2, d3, d4, d5] => { results := [.lit (.bool true)], args := [d1, d2, d3, d4, d5] }
  | _ => none }
def ctOnceRow : OpenClaim := { program := "ytjmmmkkngbihkaa", sum := "bda5e0f432c710eee7442cc87ab8b5d1a768eb635496832742ca81b7ff424d5b", func := "sapwood/sapwoodlaw01.CtOnce", spec := "ctOnce", inPlace := ["internal/abi.NoEscape", "internal/bytealg.MakeNoZero"], apart := false }
def CtOnceSaid : Prop := ctOnceRow.holds Try.pinned (OpenSpec.ofChange ctOnceSpec)

/-- ITS FALSE NEIGHBOUR: 'it returns false'. Refute it at one input. -/
def ctOnceWrong : ChangeSpec := { name := "ctOnce", fn := fun _ => fun
  | [d1, d2, d3, d4, d5] => { results := [.lit (.bool false)], args := [d1, d2, d3, d4, d5] }
  | _ => none }
def CtOnceWrongFalsely : Prop := ctOnceRow.holds Try.pinned (OpenSpec.ofChange ctOnceWrong)

/-- 'sapwoodlaw02.LimbReads': WHATEVER THE INPUT: true; the input reads as it did. -/
def limbReadsSpec : ChangeSpec := { name := "limbReads", fn := fun _ => fun
  | [d1, d2, d3] => { results := [.lit (.bool true)], args := [d1, d2, d3] }
  | _ => none }
def limbReadsRow : OpenClaim := { program := "ytjmmmkkngbihkaa", sum := "bda5e0f432c710eee7442cc87ab8b5d1a768eb635496832742ca81b7ff424d5b", func := "sapwood/sapwoodlaw02.LimbReads", spec := "limbReads", inPlace := ["internal/abi.NoEscape", "internal/bytealg.MakeNoZero"], apart := false }
def LimbReadsSaid : Prop := limbReadsRow.holds Try.pinned (OpenSpec.ofChange limbReadsSpec)

/-- ITS FALSE NEIGHBOUR: 'it returns false'. Refute it at one input. -/
def limbReadsWrong : ChangeSpec := { name := "limbReads", fn := fun _ => fun
  | [d1, d2, d3] => { results := [.lit (.bool false)], args := [d1, d2, d3] }
  | _ => none }
def LimbReadsWrongFalsely : Prop := limbReadsRow.holds Try.pinned (OpenSpec.ofChange limbReadsWrong)

/-- 'sapwoodlaw02.LimbAdds': WHATEVER THE INPUT: true; the input reads as it did. -/
def limbAddsSpec : ChangeSpec := { name := "limbAdds", fn := fun _ => fun
  | [d1, d2, d3] => { results := [.lit (.bool true)], args := [d1, d2, d3] }
  | _ => none }
def limbAddsRow : OpenClaim := { program := "ytjmmmkkngbihkaa", sum := "bda5e0f432c710eee7442cc87ab8b5d1a768eb635496832742ca81b7ff424d5b", func := "sapwood/sapwoodlaw02.LimbAdds", spec := "limbAdds", inPlace := ["internal/abi.NoEscape", "internal/bytealg.MakeNoZero"], apart := false }
def LimbAddsSaid : Prop := limbAddsRow.holds Try.pinned (OpenSpec.ofChange limbAddsSpec)

/-- ITS FALSE NEIGHBOUR: 'it returns false'. Refute it at one input. -/
def limbAddsWrong : ChangeSpec := { name := "limbAdds", fn := fun _ => fun
  | [d1, d2, d3] => { results := [.lit (.bool false)], args := [d1, d2, d3] }
  | _ => none }
def LimbAddsWrongFalsely : Prop := limbAddsRow.holds Try.pinned (OpenSpec.ofChange limbAddsWrong)

/-- 'sapwoodlaw02.LimbLaws': WHATEVER THE INPUT: true; the input reads as it did. -/
def limbLawsSpec : ChangeSpec := { name := "limbLaws", fn := fun _ => fun
  | [d1, d2, d3] => { results := [.lit (.bool true)], args := [d1, d2, d3] }
  | _ => none }
def limbLawsRow : OpenClaim := { program := "ytjmmmkkngbihkaa", sum := "bda5e0f432c710eee7442cc87ab8b5d1a768eb635496832742ca81b7ff424d5b", func := "sapwood/sapwoodlaw02.LimbLaws", spec := "limbLaws", inPlace := ["internal/abi.NoEscape", "internal/bytealg.MakeNoZero"], apart := false }
def LimbLawsSaid : Prop := limbLawsRow.holds Try.pinned (OpenSpec.ofChange limbLawsSpec)

/-- ITS FALSE NEIGHBOUR: 'it returns false'. Refute it at one input. -/
def limbLawsWrong : ChangeSpec := { name := "limbLaws", fn := fun _ => fun
  | [d1, d2, d3] => { results := [.lit (.bool false)], args := [d1, d2, d3] }
  | _ => none }
def LimbLawsWrongFalsely : Prop := limbLawsRow.holds Try.pinned (OpenSpec.ofChange limbLawsWrong)

/-- 'sapwoodlaw02.LimbModulus': WHATEVER THE INPUT: true; the input reads as it did. -/
def limbModulusSpec : ChangeSpec := { name := "limbModulus", fn := fun _ => fun
  | [d1, d2] => { results := [.lit (.bool true)], args := [d1, d2] }
  | _ => none }
def limbModulusRow : OpenClaim := { program := "ytjmmmkkngbihkaa", sum := "bda5e0f432c710eee7442cc87ab8b5d1a768eb635496832742ca81b7ff424d5b", func := "sapwood/sapwoodlaw02.LimbModulus", spec := "limbModulus", inPlace := ["internal/abi.NoEscape", "internal/bytealg.MakeNoZero"], apart := false }
def LimbModulusSaid : Prop := limbModulusRow.holds Try.pinned (OpenSpec.ofChange limbModulusSpec)

/-- ITS FALSE NEIGHBOUR: 'it returns false'. Refute it at one input. -/
def limbModulusWrong : ChangeSpec := { name := "limbModulus", fn := fun _ => fun
  | [d1, d2] => { results := [.lit (.bool false)], args := [d1, d2] }
  | _ => none }
def LimbModulusWrongFalsely : Prop := limbModulusRow.holds Try.pinned (OpenSpec.ofChange limbModulusWrong)

/- THE SECOND FORM. 'bulk': how many values and letters a reading holds, each counted each time it is reached (what is shared counts as often as it is met; a slice's spare places count too). A statement '..UptoSaid' is the law's where the arguments, and the package variables that the reading takes, are together of bulk at most 1048576: NARROWER than '..Said'. Prove '..Said' where nothing that the law and all that it calls make is longer than what came in: it says more and counts as full. Else prove '..UptoSaid'. A law counts once. -/
mutual
def uptoBulk {H : Type} : DataW H → Nat
  | .lit (.string bytes) => bytes.length + 1
  | .lit _ => 1
  | .nil => 1
  | .ptr d => uptoBulk d + 1
  | .slice elems spare => uptoBulkAll elems + uptoBulkAll spare + 1
  | .agg parts => uptoBulkAll parts + 1
  | .iface _ d => uptoBulk d + 1
  | .map entries => uptoBulkEntries entries + 1
  | .held _ => 1
def uptoBulkAll {H : Type} : List (DataW H) → Nat
  | [] => 0
  | d :: r => uptoBulk d + uptoBulkAll r
def uptoBulkEntries {H : Type} : List (Lit × DataW H) → Nat
  | [] => 0
  | x :: r => uptoBulkEntry x + uptoBulkEntries r
def uptoBulkEntry {H : Type} : Lit × DataW H → Nat
  | (.string bytes, d) => bytes.length + uptoBulk d + 1
  | (_, d) => uptoBulk d + 1
 end
def uptoSmall : (H : Type) → List (DataW H) → Bool := fun _ ds => decide (uptoBulkAll ds ≤ 1048576)
def OpenSpec.upto (s : _root_.Go.ChangeSpec) : _root_.Go.OpenSpec := { _root_.Go.OpenSpec.ofChange s with cond := some uptoSmall }

/-- 'sapwoodlaw01.CtCompares', WHERE WHAT IT READS IS OF BULK AT MOST 1048576: true; the input reads as it did. -/
def ctComparesUptoRow : OpenClaim := { program := "ytjmmmkkngbihkaa", sum := "bda5e0f432c710eee7442cc87ab8b5d1a768eb635496832742ca81b7ff424d5b", func := "sapwood/sapwoodlaw01.CtCompares", spec := "ctCompares", inPlace := ["internal/abi.NoEscape", "internal/bytealg.MakeNoZero"], apart := false, narrowed := true }
def CtComparesUptoSaid : Prop := ctComparesUptoRow.holds Try.pinned (OpenSpec.upto ctComparesSpec)

/-- 'sapwoodlaw01.CtPicks', WHERE WHAT IT READS IS OF BULK AT MOST 1048576: true; the input reads as it did. -/
def ctPicksUptoRow : OpenClaim := { program := "ytjmmmkkngbihkaa", sum := "bda5e0f432c710eee7442cc87ab8b5d1a768eb635496832742ca81b7ff424d5b", func := "sapwood/sapwoodlaw01.CtPicks", spec := "ctPicks", inPlace := ["internal/abi.NoEscape", "internal/bytealg.MakeNoZero"], apart := false, narrowed := true }
def CtPicksUptoSaid : Prop := ctPicksUptoRow.holds Try.pinned (OpenSpec.upto ctPicksSpec)

/-- 'sapwoodlaw01.CtOnce', WHERE WHAT IT READS IS OF BULK AT MOST 1048576: true; the input reads as it did. -/
def ctOnceUptoRow : OpenClaim := { program := "ytjmmmkkngbihkaa", sum := "bda5e0f432c710eee7442cc87ab8b5d1a768eb635496832742ca81b7ff424d5b", func := "sapwood/sapwoodlaw01.CtOnce", spec := "ctOnce", inPlace := ["internal/abi.NoEscape", "internal/bytealg.MakeNoZero"], apart := false, narrowed := true }
def CtOnceUptoSaid : Prop := ctOnceUptoRow.holds Try.pinned (OpenSpec.upto ctOnceSpec)

/-- 'sapwoodlaw02.LimbReads', WHERE WHAT IT READS IS OF BULK AT MOST 1048576: true; the input reads as it did. -/
def limbReadsUptoRow : OpenClaim := { program := "ytjmmmkkngbihkaa", sum := "bda5e0f432c710eee7442cc87ab8b5d1a768eb635496832742ca81b7ff424d5b", func := "sapwood/sapwoodlaw02.LimbReads", spec := "limbReads", inPlace := ["internal/abi.NoEscape", "internal/bytealg.MakeNoZero"], apart := false, narrowed := true }
def LimbReadsUptoSaid : Prop := limbReadsUptoRow.holds Try.pinned (OpenSpec.upto limbReadsSpec)

/-- 'sapwoodlaw02.LimbAdds', WHERE WHAT IT READS IS OF BULK AT MOST 1048576: true; the input reads as it did. -/
def limbAddsUptoRow : OpenClaim := { program := "ytjmmmkkngbihkaa", sum := "bda5e0f432c710eee7442cc87ab8b5d1a768eb635496832742ca81b7ff424d5b", func := "sapwood/sapwoodlaw02.LimbAdds", spec := "limbAdds", inPlace := ["internal/abi.NoEscape", "internal/bytealg.MakeNoZero"], apart := false, narrowed := true }
def LimbAddsUptoSaid : Prop := limbAddsUptoRow.holds Try.pinned (OpenSpec.upto limbAddsSpec)

/-- 'sapwoodlaw02.LimbLaws', WHERE WHAT IT READS IS OF BULK AT MOST 1048576: true; the input reads as it did. -/
def limbLawsUptoRow : OpenClaim := { program := "ytjmmmkkngbihkaa", sum := "bda5e0f432c710eee7442cc87ab8b5d1a768eb635496832742ca81b7ff424d5b", func := "sapwood/sapwoodlaw02.LimbLaws", spec := "limbLaws", inPlace := ["internal/abi.NoEscape", "internal/bytealg.MakeNoZero"], apart := false, narrowed := true }
def LimbLawsUptoSaid : Prop := limbLawsUptoRow.holds Try.pinned (OpenSpec.upto limbLawsSpec)

/-- 'sapwoodlaw02.LimbModulus', WHERE WHAT IT READS IS OF BULK AT MOST 1048576: true; the input reads as it did. -/
def limbModulusUptoRow : OpenClaim := { program := "ytjmmmkkngbihkaa", sum := "bda5e0f432c710eee7442cc87ab8b5d1a768eb635496832742ca81b7ff424d5b", func := "sapwood/sapwoodlaw02.LimbModulus", spec := "limbModulus", inPlace := ["internal/abi.NoEscape", "internal/bytealg.MakeNoZero"], apart := false, narrowed := true }
def LimbModulusUptoSaid : Prop := limbModulusUptoRow.holds Try.pinned (OpenSpec.upto limbModulusSpec)

end Rows
end Go.Proofs.Ytjmmmkkngbihkaa
