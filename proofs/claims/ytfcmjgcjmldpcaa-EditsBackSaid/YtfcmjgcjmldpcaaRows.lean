/-
  No cell of these rows narrows 'for every input' (looked for: loops, veiled, ifaces, maps, wideKeys, modest, calm, conditions, laid).
  DERIVED. THE GIVEN ROWS OF THIS SEAT. 6 by the template 'for every input the law returns true; each argument reads behind the call as it read before'; 0 by the template 'total and deterministic' (their statements: YtfcmjgcjmldpcaaTotals.lean).
  GIVEN WITH THE SEED: the statements are not yours to turn. If you find one false, say at which input.
  Laid BY PROGRAM, IN A SANDBOX (cutbox-rows.mjs): the forced cells as the released guide's own fill.sh prints them over the translation a5cc18eb59525495… (all of the seat's roots in one cut). By AI agents, Wed Nov 11 2026. No macro, syntax, notation, axiom, sorry.
-/
import Derived.Test.YtfcmjgcjmldpcaaChecked
import GoSem.Claim
import GoSem.ClaimJoined
import GoSem.ClaimMapViews
import Derived.JoinedTies
import Derived.KernelRfl
namespace Go.Proofs.Ytfcmjgcjmldpcaa
/- THE CELL 'sum', in the pinned program and in every row, IS THE sha256 OF THE DUMP (.gsa) THAT YtfcmjgcjmldpcaaProg.lean LOADS. Nothing in Lean hashes anything: it is a label: what it is worth is what the hold of that sum in a sandbox is worth. -/
noncomputable def Try.pinned : Pinned := { name := "ytfcmjgcjmldpcaa", sum := "a5cc18eb59525495b7732d14291ebbfee5109f605e3017bf957c88b6db3d34b5", checked := Try.checked }
namespace Rows
def none {H : Type} : Left H := { results := [], args := [] }

/-- 'spoorlaw16.EditsTell': WHATEVER THE INPUT: true; the input reads as it did. -/
def editsTellSpec : ChangeSpec := { name := "editsTell", fn := fun _ => fun
  | [d1, d2, d3] => { results := [.lit (.bool true)], args := [d1, d2, d3] }
  | _ => none }
def editsTellRow : OpenClaim := { program := "ytfcmjgcjmldpcaa", sum := "a5cc18eb59525495b7732d14291ebbfee5109f605e3017bf957c88b6db3d34b5", func := "spoor/spoorlaw16.EditsTell", spec := "editsTell", unfollowed := true, recurses := true, apart := false }
def EditsTellSaid : Prop := editsTellRow.holds Try.pinned (OpenSpec.ofChange editsTellSpec)

/-- ITS FALSE NEIGHBOUR: 'it returns false'. Refute it at one input. -/
def editsTellWrong : ChangeSpec := { name := "editsTell", fn := fun _ => fun
  | [d1, d2, d3] => { results := [.lit (.bool false)], args := [d1, d2, d3] }
  | _ => none }
def EditsTellWrongFalsely : Prop := editsTellRow.holds Try.pinned (OpenSpec.ofChange editsTellWrong)

/-- 'spoorlaw16.EditsPlay': WHATEVER THE INPUT: true; the input reads as it did. -/
def editsPlaySpec : ChangeSpec := { name := "editsPlay", fn := fun _ => fun
  | [d] => { results := [.lit (.bool true)], args := [d] }
  | _ => none }
def editsPlayRow : OpenClaim := { program := "ytfcmjgcjmldpcaa", sum := "a5cc18eb59525495b7732d14291ebbfee5109f605e3017bf957c88b6db3d34b5", func := "spoor/spoorlaw16.EditsPlay", spec := "editsPlay", unfollowed := true, recurses := true, apart := false }
def EditsPlaySaid : Prop := editsPlayRow.holds Try.pinned (OpenSpec.ofChange editsPlaySpec)

/-- ITS FALSE NEIGHBOUR: 'it returns false'. Refute it at one input. -/
def editsPlayWrong : ChangeSpec := { name := "editsPlay", fn := fun _ => fun
  | [d] => { results := [.lit (.bool false)], args := [d] }
  | _ => none }
def EditsPlayWrongFalsely : Prop := editsPlayRow.holds Try.pinned (OpenSpec.ofChange editsPlayWrong)

/-- 'spoorlaw16.EditsOne': WHATEVER THE INPUT: true; the input reads as it did. -/
def editsOneSpec : ChangeSpec := { name := "editsOne", fn := fun _ => fun
  | [d1, d2] => { results := [.lit (.bool true)], args := [d1, d2] }
  | _ => none }
def editsOneRow : OpenClaim := { program := "ytfcmjgcjmldpcaa", sum := "a5cc18eb59525495b7732d14291ebbfee5109f605e3017bf957c88b6db3d34b5", func := "spoor/spoorlaw16.EditsOne", spec := "editsOne", unfollowed := true, recurses := true, apart := false }
def EditsOneSaid : Prop := editsOneRow.holds Try.pinned (OpenSpec.ofChange editsOneSpec)

/-- ITS FALSE NEIGHBOUR: 'it returns false'. Refute it at one input. -/
def editsOneWrong : ChangeSpec := { name := "editsOne", fn := fun _ => fun
  | [d1, d2] => { results := [.lit (.bool false)], args := [d1, d2] }
  | _ => none }
def EditsOneWrongFalsely : Prop := editsOneRow.holds Try.pinned (OpenSpec.ofChange editsOneWrong)

/-- 'spoorlaw16.EditsBack': WHATEVER THE INPUT: true; the input reads as it did. -/
def editsBackSpec : ChangeSpec := { name := "editsBack", fn := fun _ => fun
  | [d1, d2] => { results := [.lit (.bool true)], args := [d1, d2] }
  | _ => none }
def editsBackRow : OpenClaim := { program := "ytfcmjgcjmldpcaa", sum := "a5cc18eb59525495b7732d14291ebbfee5109f605e3017bf957c88b6db3d34b5", func := "spoor/spoorlaw16.EditsBack", spec := "editsBack", inPlace := ["internal/abi.NoEscape"], unfollowed := true, recurses := true, apart := false }
def EditsBackSaid : Prop := editsBackRow.holds Try.pinned (OpenSpec.ofChange editsBackSpec)

/-- ITS FALSE NEIGHBOUR: 'it returns false'. Refute it at one input. -/
def editsBackWrong : ChangeSpec := { name := "editsBack", fn := fun _ => fun
  | [d1, d2] => { results := [.lit (.bool false)], args := [d1, d2] }
  | _ => none }
def EditsBackWrongFalsely : Prop := editsBackRow.holds Try.pinned (OpenSpec.ofChange editsBackWrong)

/-- 'spoorlaw16.EditsWritten': WHATEVER THE INPUT: true; the input reads as it did. -/
def editsWrittenSpec : ChangeSpec := { name := "editsWritten", fn := fun _ => fun
  | [d] => { results := [.lit (.bool true)], args := [d] }
  | _ => none }
def editsWrittenRow : OpenClaim := { program := "ytfcmjgcjmldpcaa", sum := "a5cc18eb59525495b7732d14291ebbfee5109f605e3017bf957c88b6db3d34b5", func := "spoor/spoorlaw16.EditsWritten", spec := "editsWritten", inPlace := ["internal/abi.NoEscape"], unfollowed := true, recurses := true, apart := false }
def EditsWrittenSaid : Prop := editsWrittenRow.holds Try.pinned (OpenSpec.ofChange editsWrittenSpec)

/-- ITS FALSE NEIGHBOUR: 'it returns false'. Refute it at one input. -/
def editsWrittenWrong : ChangeSpec := { name := "editsWritten", fn := fun _ => fun
  | [d] => { results := [.lit (.bool false)], args := [d] }
  | _ => none }
def EditsWrittenWrongFalsely : Prop := editsWrittenRow.holds Try.pinned (OpenSpec.ofChange editsWrittenWrong)

/-- 'spoorlaw16.EditsHalves': WHATEVER THE INPUT: true; the input reads as it did. -/
def editsHalvesSpec : ChangeSpec := { name := "editsHalves", fn := fun _ => fun
  | [d1, d2, d3] => { results := [.lit (.bool true)], args := [d1, d2, d3] }
  | _ => none }
def editsHalvesRow : OpenClaim := { program := "ytfcmjgcjmldpcaa", sum := "a5cc18eb59525495b7732d14291ebbfee5109f605e3017bf957c88b6db3d34b5", func := "spoor/spoorlaw16.EditsHalves", spec := "editsHalves", unfollowed := true, recurses := true, apart := false }
def EditsHalvesSaid : Prop := editsHalvesRow.holds Try.pinned (OpenSpec.ofChange editsHalvesSpec)

/-- ITS FALSE NEIGHBOUR: 'it returns false'. Refute it at one input. -/
def editsHalvesWrong : ChangeSpec := { name := "editsHalves", fn := fun _ => fun
  | [d1, d2, d3] => { results := [.lit (.bool false)], args := [d1, d2, d3] }
  | _ => none }
def EditsHalvesWrongFalsely : Prop := editsHalvesRow.holds Try.pinned (OpenSpec.ofChange editsHalvesWrong)

/- THE SECOND FORM. 'bulk': how many values and letters a reading holds, each counted each time it is reached (what is shared counts as often as it is met; a slice's spare places count too). A statement '..UptoSaid' is the law's where the arguments, and the package variables that the reading takes, are together of bulk at most 1048576: NARROWER than '..Said'. Prove '..Said' where nothing that the law and all that it calls make is longer than what came in: it says more and counts as full. Else prove '..UptoSaid'. A law counts once. -/
mutual
def uptoBulk {H : Type} : DataW H → Nat
  | .lit (.string bytes) => bytes.length + 1
  | .lit _ => 1
  | .nil => 1
  | .ptr d => uptoBulk d + 1
  | .slice elems spare => uptoBulkAll elems + uptoBulkAll spare + 1
  | .agg parts => uptoBulkAll parts + 1
  | .iface _ d => uptoBulk d + 1
  | .map entries => uptoBulkEntries entries + 1
  | .held _ => 1
def uptoBulkAll {H : Type} : List (DataW H) → Nat
  | [] => 0
  | d :: r => uptoBulk d + uptoBulkAll r
def uptoBulkEntries {H : Type} : List (Lit × DataW H) → Nat
  | [] => 0
  | x :: r => uptoBulkEntry x + uptoBulkEntries r
def uptoBulkEntry {H : Type} : Lit × DataW H → Nat
  | (.string bytes, d) => bytes.length + uptoBulk d + 1
  | (_, d) => uptoBulk d + 1
 end
def uptoSmall : (H : Type) → List (DataW H) → Bool := fun _ ds => decide (uptoBulkAll ds ≤ 1048576)
def OpenSpec.upto (s : _root_.Go.ChangeSpec) : _root_.Go.OpenSpec := { _root_.Go.OpenSpec.ofChange s with cond := some uptoSmall }

/-- 'spoorlaw16.EditsTell', WHERE WHAT IT READS IS OF BULK AT MOST 1048576: true; the input reads as it did. -/
def editsTellUptoRow : OpenClaim := { program := "ytfcmjgcjmldpcaa", sum := "a5cc18eb59525495b7732d14291ebbfee5109f605e3017bf957c88b6db3d34b5", func := "spoor/spoorlaw16.EditsTell", spec := "editsTell", unfollowed := true, recurses := true, apart := false, narrowed := true }
def EditsTellUptoSaid : Prop := editsTellUptoRow.holds Try.pinned (OpenSpec.upto editsTellSpec)

/-- 'spoorlaw16.EditsPlay', WHERE WHAT IT READS IS OF BULK AT MOST 1048576: true; the input reads as it did. -/
def editsPlayUptoRow : OpenClaim := { program := "ytfcmjgcjmldpcaa", sum := "a5cc18eb59525495b7732d14291ebbfee5109f605e3017bf957c88b6db3d34b5", func := "spoor/spoorlaw16.EditsPlay", spec := "editsPlay", unfollowed := true, recurses := true, apart := false, narrowed := true }
def EditsPlayUptoSaid : Prop := editsPlayUptoRow.holds Try.pinned (OpenSpec.upto editsPlaySpec)

/-- 'spoorlaw16.EditsOne', WHERE WHAT IT READS IS OF BULK AT MOST 1048576: true; the input reads as it did. -/
def editsOneUptoRow : OpenClaim := { program := "ytfcmjgcjmldpcaa", sum := "a5cc18eb59525495b7732d14291ebbfee5109f605e3017bf957c88b6db3d34b5", func := "spoor/spoorlaw16.EditsOne", spec := "editsOne", unfollowed := true, recurses := true, apart := false, narrowed := true }
def EditsOneUptoSaid : Prop := editsOneUptoRow.holds Try.pinned (OpenSpec.upto editsOneSpec)

/-- 'spoorlaw16.EditsBack', WHERE WHAT IT READS IS OF BULK AT MOST 1048576: true; the input reads as it did. -/
def editsBackUptoRow : OpenClaim := { program := "ytfcmjgcjmldpcaa", sum := "a5cc18eb59525495b7732d14291ebbfee5109f605e3017bf957c88b6db3d34b5", func := "spoor/spoorlaw16.EditsBack", spec := "editsBack", inPlace := ["internal/abi.NoEscape"], unfollowed := true, recurses := true, apart := false, narrowed := true }
def EditsBackUptoSaid : Prop := editsBackUptoRow.holds Try.pinned (OpenSpec.upto editsBackSpec)

/-- 'spoorlaw16.EditsWritten', WHERE WHAT IT READS IS OF BULK AT MOST 1048576: true; the input reads as it did. -/
def editsWrittenUptoRow : OpenClaim := { program := "ytfcmjgcjmldpcaa", sum := "a5cc18eb59525495b7732d14291ebbfee5109f605e3017bf957c88b6db3d34b5", func := "spoor/spoorlaw16.EditsWritten", spec := "editsWritten", inPlace := ["internal/abi.NoEscape"], unfollowed := true, recurses := true, apart := false, narrowed := true }
def EditsWrittenUptoSaid : Prop := editsWrittenUptoRow.holds Try.pinned (OpenSpec.upto editsWrittenSpec)

/-- 'spoorlaw16.EditsHalves', WHERE WHAT IT READS IS OF BULK AT MOST 1048576: true; the input reads as it did. -/
def editsHalvesUptoRow : OpenClaim := { program := "ytfcmjgcjmldpcaa", sum := "a5cc18eb59525495b7732d14291ebbfee5109f605e3017bf957c88b6db3d34b5", func := "spoor/spoorlaw16.EditsHalves", spec := "editsHalves", unfollowed := true, recurses := true, apart := false, narrowed := true }
def EditsHalvesUptoSaid : Prop := editsHalvesUptoRow.holds Try.pinned (OpenSpec.upto editsHalvesSpec)

end Rows
end Go.Proofs.Ytfcmjgcjmldpcaa
