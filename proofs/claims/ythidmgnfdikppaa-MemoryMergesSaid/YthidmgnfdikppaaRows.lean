/-
  No cell of these rows narrows 'for every input' (looked for: loops, veiled, ifaces, maps, wideKeys, modest, calm, conditions, laid).
  DERIVED. THE GIVEN ROWS OF THIS SEAT. 19 by the template 'for every input the law returns true; each argument reads behind the call as it read before'; 0 by the template 'total and deterministic' (their statements: YthidmgnfdikppaaTotals.lean).
  GIVEN WITH THE SEED: the statements are not yours to turn. If you find one false, say at which input.
  Laid BY PROGRAM, IN A SANDBOX (cutbox-rows.mjs): the forced cells as the released guide's own fill.sh prints them over the translation 2af30694a0b9f48f… (all of the seat's roots in one cut). By AI agents, Wed Nov 11 2026. No macro, syntax, notation, axiom, sorry.
-/
import Derived.Test.YthidmgnfdikppaaChecked
import GoSem.Claim
import GoSem.ClaimJoined
import GoSem.ClaimMapViews
import Derived.JoinedTies
import Derived.KernelRfl
namespace Go.Proofs.Ythidmgnfdikppaa
/- THE CELL 'sum', in the pinned program and in every row, IS THE sha256 OF THE DUMP (.gsa) THAT YthidmgnfdikppaaProg.lean LOADS. Nothing in Lean hashes anything: it is a label: what it is worth is what the hold of that sum in a sandbox is worth. -/
noncomputable def Try.pinned : Pinned := { name := "ythidmgnfdikppaa", sum := "2af30694a0b9f48fecf49cb2898a2f4fcc88c95f212fc9171aa01cb77d339faa", checked := Try.checked }
namespace Rows
def none {H : Type} : Left H := { results := [], args := [] }

/-- 'spoorlaw10.TablesBuild': WHATEVER THE INPUT: true; the input reads as it did. -/
def tablesBuildSpec : ChangeSpec := { name := "tablesBuild", fn := fun _ => fun
  | [d] => { results := [.lit (.bool true)], args := [d] }
  | _ => none }
def tablesBuildRow : OpenClaim := { program := "ythidmgnfdikppaa", sum := "2af30694a0b9f48fecf49cb2898a2f4fcc88c95f212fc9171aa01cb77d339faa", func := "spoor/spoorlaw10.TablesBuild", spec := "tablesBuild", inPlace := ["internal/abi.NoEscape"], unfollowed := true, recurses := true, apart := false }
def TablesBuildSaid : Prop := tablesBuildRow.holds Try.pinned (OpenSpec.ofChange tablesBuildSpec)

/-- ITS FALSE NEIGHBOUR: 'it returns false'. Refute it at one input. -/
def tablesBuildWrong : ChangeSpec := { name := "tablesBuild", fn := fun _ => fun
  | [d] => { results := [.lit (.bool false)], args := [d] }
  | _ => none }
def TablesBuildWrongFalsely : Prop := tablesBuildRow.holds Try.pinned (OpenSpec.ofChange tablesBuildWrong)

/-- 'spoorlaw10.TablesOpen': WHATEVER THE INPUT: true; the input reads as it did. -/
def tablesOpenSpec : ChangeSpec := { name := "tablesOpen", fn := fun _ => fun
  | [d1, d2, d3] => { results := [.lit (.bool true)], args := [d1, d2, d3] }
  | _ => none }
def tablesOpenRow : OpenClaim := { program := "ythidmgnfdikppaa", sum := "2af30694a0b9f48fecf49cb2898a2f4fcc88c95f212fc9171aa01cb77d339faa", func := "spoor/spoorlaw10.TablesOpen", spec := "tablesOpen", inPlace := ["internal/abi.NoEscape"], unfollowed := true, recurses := true, apart := false }
def TablesOpenSaid : Prop := tablesOpenRow.holds Try.pinned (OpenSpec.ofChange tablesOpenSpec)

/-- ITS FALSE NEIGHBOUR: 'it returns false'. Refute it at one input. -/
def tablesOpenWrong : ChangeSpec := { name := "tablesOpen", fn := fun _ => fun
  | [d1, d2, d3] => { results := [.lit (.bool false)], args := [d1, d2, d3] }
  | _ => none }
def TablesOpenWrongFalsely : Prop := tablesOpenRow.holds Try.pinned (OpenSpec.ofChange tablesOpenWrong)

/-- 'spoorlaw10.TablesAsk': WHATEVER THE INPUT: true; the input reads as it did. -/
def tablesAskSpec : ChangeSpec := { name := "tablesAsk", fn := fun _ => fun
  | [d1, d2, d3] => { results := [.lit (.bool true)], args := [d1, d2, d3] }
  | _ => none }
def tablesAskRow : OpenClaim := { program := "ythidmgnfdikppaa", sum := "2af30694a0b9f48fecf49cb2898a2f4fcc88c95f212fc9171aa01cb77d339faa", func := "spoor/spoorlaw10.TablesAsk", spec := "tablesAsk", inPlace := ["internal/abi.NoEscape"], unfollowed := true, recurses := true, apart := false }
def TablesAskSaid : Prop := tablesAskRow.holds Try.pinned (OpenSpec.ofChange tablesAskSpec)

/-- ITS FALSE NEIGHBOUR: 'it returns false'. Refute it at one input. -/
def tablesAskWrong : ChangeSpec := { name := "tablesAsk", fn := fun _ => fun
  | [d1, d2, d3] => { results := [.lit (.bool false)], args := [d1, d2, d3] }
  | _ => none }
def TablesAskWrongFalsely : Prop := tablesAskRow.holds Try.pinned (OpenSpec.ofChange tablesAskWrong)

/-- 'spoorlaw10.TablesBack': WHATEVER THE INPUT: true; the input reads as it did. -/
def tablesBackSpec : ChangeSpec := { name := "tablesBack", fn := fun _ => fun
  | [d1, d2] => { results := [.lit (.bool true)], args := [d1, d2] }
  | _ => none }
def tablesBackRow : OpenClaim := { program := "ythidmgnfdikppaa", sum := "2af30694a0b9f48fecf49cb2898a2f4fcc88c95f212fc9171aa01cb77d339faa", func := "spoor/spoorlaw10.TablesBack", spec := "tablesBack", inPlace := ["internal/abi.NoEscape"], unfollowed := true, recurses := true, apart := false }
def TablesBackSaid : Prop := tablesBackRow.holds Try.pinned (OpenSpec.ofChange tablesBackSpec)

/-- ITS FALSE NEIGHBOUR: 'it returns false'. Refute it at one input. -/
def tablesBackWrong : ChangeSpec := { name := "tablesBack", fn := fun _ => fun
  | [d1, d2] => { results := [.lit (.bool false)], args := [d1, d2] }
  | _ => none }
def TablesBackWrongFalsely : Prop := tablesBackRow.holds Try.pinned (OpenSpec.ofChange tablesBackWrong)

/-- 'spoorlaw10.TablesTorn': WHATEVER THE INPUT: true; the input reads as it did. -/
def tablesTornSpec : ChangeSpec := { name := "tablesTorn", fn := fun _ => fun
  | [d1, d2, d3] => { results := [.lit (.bool true)], args := [d1, d2, d3] }
  | _ => none }
def tablesTornRow : OpenClaim := { program := "ythidmgnfdikppaa", sum := "2af30694a0b9f48fecf49cb2898a2f4fcc88c95f212fc9171aa01cb77d339faa", func := "spoor/spoorlaw10.TablesTorn", spec := "tablesTorn", inPlace := ["internal/abi.NoEscape"], unfollowed := true, recurses := true, apart := false }
def TablesTornSaid : Prop := tablesTornRow.holds Try.pinned (OpenSpec.ofChange tablesTornSpec)

/-- ITS FALSE NEIGHBOUR: 'it returns false'. Refute it at one input. -/
def tablesTornWrong : ChangeSpec := { name := "tablesTorn", fn := fun _ => fun
  | [d1, d2, d3] => { results := [.lit (.bool false)], args := [d1, d2, d3] }
  | _ => none }
def TablesTornWrongFalsely : Prop := tablesTornRow.holds Try.pinned (OpenSpec.ofChange tablesTornWrong)

/-- 'spoorlaw10.TablesParts': WHATEVER THE INPUT: true; the input reads as it did. -/
def tablesPartsSpec : ChangeSpec := { name := "tablesParts", fn := fun _ => fun
  | [d1, d2] => { results := [.lit (.bool true)], args := [d1, d2] }
  | _ => none }
def tablesPartsRow : OpenClaim := { program := "ythidmgnfdikppaa", sum := "2af30694a0b9f48fecf49cb2898a2f4fcc88c95f212fc9171aa01cb77d339faa", func := "spoor/spoorlaw10.TablesParts", spec := "tablesParts", inPlace := ["internal/abi.NoEscape"], unfollowed := true, recurses := true, apart := false }
def TablesPartsSaid : Prop := tablesPartsRow.holds Try.pinned (OpenSpec.ofChange tablesPartsSpec)

/-- ITS FALSE NEIGHBOUR: 'it returns false'. Refute it at one input. -/
def tablesPartsWrong : ChangeSpec := { name := "tablesParts", fn := fun _ => fun
  | [d1, d2] => { results := [.lit (.bool false)], args := [d1, d2] }
  | _ => none }
def TablesPartsWrongFalsely : Prop := tablesPartsRow.holds Try.pinned (OpenSpec.ofChange tablesPartsWrong)

/-- 'spoorlaw10.TablesEach': WHATEVER THE INPUT: true; the input reads as it did. -/
def tablesEachSpec : ChangeSpec := { name := "tablesEach", fn := fun _ => fun
  | [d] => { results := [.lit (.bool true)], args := [d] }
  | _ => none }
def tablesEachRow : OpenClaim := { program := "ythidmgnfdikppaa", sum := "2af30694a0b9f48fecf49cb2898a2f4fcc88c95f212fc9171aa01cb77d339faa", func := "spoor/spoorlaw10.TablesEach", spec := "tablesEach", inPlace := ["internal/abi.NoEscape"], unfollowed := true, recurses := true, apart := false }
def TablesEachSaid : Prop := tablesEachRow.holds Try.pinned (OpenSpec.ofChange tablesEachSpec)

/-- ITS FALSE NEIGHBOUR: 'it returns false'. Refute it at one input. -/
def tablesEachWrong : ChangeSpec := { name := "tablesEach", fn := fun _ => fun
  | [d] => { results := [.lit (.bool false)], args := [d] }
  | _ => none }
def TablesEachWrongFalsely : Prop := tablesEachRow.holds Try.pinned (OpenSpec.ofChange tablesEachWrong)

/-- 'spoorlaw10.TablesNone': WHATEVER THE INPUT: true; the input reads as it did. -/
def tablesNoneSpec : ChangeSpec := { name := "tablesNone", fn := fun _ => fun
  | [d1, d2] => { results := [.lit (.bool true)], args := [d1, d2] }
  | _ => none }
def tablesNoneRow : OpenClaim := { program := "ythidmgnfdikppaa", sum := "2af30694a0b9f48fecf49cb2898a2f4fcc88c95f212fc9171aa01cb77d339faa", func := "spoor/spoorlaw10.TablesNone", spec := "tablesNone", inPlace := ["internal/abi.NoEscape"], unfollowed := true, recurses := true, apart := false }
def TablesNoneSaid : Prop := tablesNoneRow.holds Try.pinned (OpenSpec.ofChange tablesNoneSpec)

/-- ITS FALSE NEIGHBOUR: 'it returns false'. Refute it at one input. -/
def tablesNoneWrong : ChangeSpec := { name := "tablesNone", fn := fun _ => fun
  | [d1, d2] => { results := [.lit (.bool false)], args := [d1, d2] }
  | _ => none }
def TablesNoneWrongFalsely : Prop := tablesNoneRow.holds Try.pinned (OpenSpec.ofChange tablesNoneWrong)

/-- 'spoorlaw11.MergesAll': WHATEVER THE INPUT: true; the input reads as it did. -/
def mergesAllSpec : ChangeSpec := { name := "mergesAll", fn := fun _ => fun
  | [d] => { results := [.lit (.bool true)], args := [d] }
  | _ => none }
def mergesAllRow : OpenClaim := { program := "ythidmgnfdikppaa", sum := "2af30694a0b9f48fecf49cb2898a2f4fcc88c95f212fc9171aa01cb77d339faa", func := "spoor/spoorlaw11.MergesAll", spec := "mergesAll", unfollowed := true, recurses := true, apart := false }
def MergesAllSaid : Prop := mergesAllRow.holds Try.pinned (OpenSpec.ofChange mergesAllSpec)

/-- ITS FALSE NEIGHBOUR: 'it returns false'. Refute it at one input. -/
def mergesAllWrong : ChangeSpec := { name := "mergesAll", fn := fun _ => fun
  | [d] => { results := [.lit (.bool false)], args := [d] }
  | _ => none }
def MergesAllWrongFalsely : Prop := mergesAllRow.holds Try.pinned (OpenSpec.ofChange mergesAllWrong)

/-- 'spoorlaw11.MergesNext': WHATEVER THE INPUT: true; the input reads as it did. -/
def mergesNextSpec : ChangeSpec := { name := "mergesNext", fn := fun _ => fun
  | [d] => { results := [.lit (.bool true)], args := [d] }
  | _ => none }
def mergesNextRow : OpenClaim := { program := "ythidmgnfdikppaa", sum := "2af30694a0b9f48fecf49cb2898a2f4fcc88c95f212fc9171aa01cb77d339faa", func := "spoor/spoorlaw11.MergesNext", spec := "mergesNext", unfollowed := true, recurses := true, apart := false }
def MergesNextSaid : Prop := mergesNextRow.holds Try.pinned (OpenSpec.ofChange mergesNextSpec)

/-- ITS FALSE NEIGHBOUR: 'it returns false'. Refute it at one input. -/
def mergesNextWrong : ChangeSpec := { name := "mergesNext", fn := fun _ => fun
  | [d] => { results := [.lit (.bool false)], args := [d] }
  | _ => none }
def MergesNextWrongFalsely : Prop := mergesNextRow.holds Try.pinned (OpenSpec.ofChange mergesNextWrong)

/-- 'spoorlaw11.MergesCount': WHATEVER THE INPUT: true; the input reads as it did. -/
def mergesCountSpec : ChangeSpec := { name := "mergesCount", fn := fun _ => fun
  | [d] => { results := [.lit (.bool true)], args := [d] }
  | _ => none }
def mergesCountRow : OpenClaim := { program := "ythidmgnfdikppaa", sum := "2af30694a0b9f48fecf49cb2898a2f4fcc88c95f212fc9171aa01cb77d339faa", func := "spoor/spoorlaw11.MergesCount", spec := "mergesCount", unfollowed := true, recurses := true, apart := false }
def MergesCountSaid : Prop := mergesCountRow.holds Try.pinned (OpenSpec.ofChange mergesCountSpec)

/-- ITS FALSE NEIGHBOUR: 'it returns false'. Refute it at one input. -/
def mergesCountWrong : ChangeSpec := { name := "mergesCount", fn := fun _ => fun
  | [d] => { results := [.lit (.bool false)], args := [d] }
  | _ => none }
def MergesCountWrongFalsely : Prop := mergesCountRow.holds Try.pinned (OpenSpec.ofChange mergesCountWrong)

/-- 'spoorlaw11.MergesNewest': WHATEVER THE INPUT: true; the input reads as it did. -/
def mergesNewestSpec : ChangeSpec := { name := "mergesNewest", fn := fun _ => fun
  | [d] => { results := [.lit (.bool true)], args := [d] }
  | _ => none }
def mergesNewestRow : OpenClaim := { program := "ythidmgnfdikppaa", sum := "2af30694a0b9f48fecf49cb2898a2f4fcc88c95f212fc9171aa01cb77d339faa", func := "spoor/spoorlaw11.MergesNewest", spec := "mergesNewest", unfollowed := true, recurses := true, apart := false }
def MergesNewestSaid : Prop := mergesNewestRow.holds Try.pinned (OpenSpec.ofChange mergesNewestSpec)

/-- ITS FALSE NEIGHBOUR: 'it returns false'. Refute it at one input. -/
def mergesNewestWrong : ChangeSpec := { name := "mergesNewest", fn := fun _ => fun
  | [d] => { results := [.lit (.bool false)], args := [d] }
  | _ => none }
def MergesNewestWrongFalsely : Prop := mergesNewestRow.holds Try.pinned (OpenSpec.ofChange mergesNewestWrong)

/-- 'spoorlaw11.MergesOrder': WHATEVER THE INPUT: true; the input reads as it did. -/
def mergesOrderSpec : ChangeSpec := { name := "mergesOrder", fn := fun _ => fun
  | [d1, d2] => { results := [.lit (.bool true)], args := [d1, d2] }
  | _ => none }
def mergesOrderRow : OpenClaim := { program := "ythidmgnfdikppaa", sum := "2af30694a0b9f48fecf49cb2898a2f4fcc88c95f212fc9171aa01cb77d339faa", func := "spoor/spoorlaw11.MergesOrder", spec := "mergesOrder", unfollowed := true, recurses := true, apart := false }
def MergesOrderSaid : Prop := mergesOrderRow.holds Try.pinned (OpenSpec.ofChange mergesOrderSpec)

/-- ITS FALSE NEIGHBOUR: 'it returns false'. Refute it at one input. -/
def mergesOrderWrong : ChangeSpec := { name := "mergesOrder", fn := fun _ => fun
  | [d1, d2] => { results := [.lit (.bool false)], args := [d1, d2] }
  | _ => none }
def MergesOrderWrongFalsely : Prop := mergesOrderRow.holds Try.pinned (OpenSpec.ofChange mergesOrderWrong)

/-- 'spoorlaw11.MergesParts': WHATEVER THE INPUT: true; the input reads as it did. -/
def mergesPartsSpec : ChangeSpec := { name := "mergesParts", fn := fun _ => fun
  | [d1, d2] => { results := [.lit (.bool true)], args := [d1, d2] }
  | _ => none }
def mergesPartsRow : OpenClaim := { program := "ythidmgnfdikppaa", sum := "2af30694a0b9f48fecf49cb2898a2f4fcc88c95f212fc9171aa01cb77d339faa", func := "spoor/spoorlaw11.MergesParts", spec := "mergesParts", unfollowed := true, recurses := true, apart := false }
def MergesPartsSaid : Prop := mergesPartsRow.holds Try.pinned (OpenSpec.ofChange mergesPartsSpec)

/-- ITS FALSE NEIGHBOUR: 'it returns false'. Refute it at one input. -/
def mergesPartsWrong : ChangeSpec := { name := "mergesParts", fn := fun _ => fun
  | [d1, d2] => { results := [.lit (.bool false)], args := [d1, d2] }
  | _ => none }
def MergesPartsWrongFalsely : Prop := mergesPartsRow.holds Try.pinned (OpenSpec.ofChange mergesPartsWrong)

/-- 'spoorlaw15.MemoryPlays': WHATEVER THE INPUT: true; the input reads as it did. -/
def memoryPlaysSpec : ChangeSpec := { name := "memoryPlays", fn := fun _ => fun
  | [d1, d2, d3] => { results := [.lit (.bool true)], args := [d1, d2, d3] }
  | _ => none }
def memoryPlaysRow : OpenClaim := { program := "ythidmgnfdikppaa", sum := "2af30694a0b9f48fecf49cb2898a2f4fcc88c95f212fc9171aa01cb77d339faa", func := "spoor/spoorlaw15.MemoryPlays", spec := "memoryPlays", inPlace := ["slices.overlaps[spoor/api.Cell]", "slices.overlaps[spoor/memory.page]"], unfollowed := true, recurses := true, apart := false }
def MemoryPlaysSaid : Prop := memoryPlaysRow.holds Try.pinned (OpenSpec.ofChange memoryPlaysSpec)

/-- ITS FALSE NEIGHBOUR: 'it returns false'. Refute it at one input. -/
def memoryPlaysWrong : ChangeSpec := { name := "memoryPlays", fn := fun _ => fun
  | [d1, d2, d3] => { results := [.lit (.bool false)], args := [d1, d2, d3] }
  | _ => none }
def MemoryPlaysWrongFalsely : Prop := memoryPlaysRow.holds Try.pinned (OpenSpec.ofChange memoryPlaysWrong)

/-- 'spoorlaw15.MemoryCut': WHATEVER THE INPUT: true; the input reads as it did. -/
def memoryCutSpec : ChangeSpec := { name := "memoryCut", fn := fun _ => fun
  | [d1, d2, d3] => { results := [.lit (.bool true)], args := [d1, d2, d3] }
  | _ => none }
def memoryCutRow : OpenClaim := { program := "ythidmgnfdikppaa", sum := "2af30694a0b9f48fecf49cb2898a2f4fcc88c95f212fc9171aa01cb77d339faa", func := "spoor/spoorlaw15.MemoryCut", spec := "memoryCut", inPlace := ["slices.overlaps[spoor/api.Cell]", "slices.overlaps[spoor/memory.page]"], unfollowed := true, recurses := true, apart := false }
def MemoryCutSaid : Prop := memoryCutRow.holds Try.pinned (OpenSpec.ofChange memoryCutSpec)

/-- ITS FALSE NEIGHBOUR: 'it returns false'. Refute it at one input. -/
def memoryCutWrong : ChangeSpec := { name := "memoryCut", fn := fun _ => fun
  | [d1, d2, d3] => { results := [.lit (.bool false)], args := [d1, d2, d3] }
  | _ => none }
def MemoryCutWrongFalsely : Prop := memoryCutRow.holds Try.pinned (OpenSpec.ofChange memoryCutWrong)

/-- 'spoorlaw15.MemoryOrder': WHATEVER THE INPUT: true; the input reads as it did. -/
def memoryOrderSpec : ChangeSpec := { name := "memoryOrder", fn := fun _ => fun
  | [d1, d2, d3] => { results := [.lit (.bool true)], args := [d1, d2, d3] }
  | _ => none }
def memoryOrderRow : OpenClaim := { program := "ythidmgnfdikppaa", sum := "2af30694a0b9f48fecf49cb2898a2f4fcc88c95f212fc9171aa01cb77d339faa", func := "spoor/spoorlaw15.MemoryOrder", spec := "memoryOrder", inPlace := ["slices.overlaps[spoor/api.Cell]", "slices.overlaps[spoor/memory.page]"], unfollowed := true, recurses := true, apart := false }
def MemoryOrderSaid : Prop := memoryOrderRow.holds Try.pinned (OpenSpec.ofChange memoryOrderSpec)

/-- ITS FALSE NEIGHBOUR: 'it returns false'. Refute it at one input. -/
def memoryOrderWrong : ChangeSpec := { name := "memoryOrder", fn := fun _ => fun
  | [d1, d2, d3] => { results := [.lit (.bool false)], args := [d1, d2, d3] }
  | _ => none }
def MemoryOrderWrongFalsely : Prop := memoryOrderRow.holds Try.pinned (OpenSpec.ofChange memoryOrderWrong)

/-- 'spoorlaw15.MemoryParts': WHATEVER THE INPUT: true; the input reads as it did. -/
def memoryPartsSpec : ChangeSpec := { name := "memoryParts", fn := fun _ => fun
  | [d1, d2] => { results := [.lit (.bool true)], args := [d1, d2] }
  | _ => none }
def memoryPartsRow : OpenClaim := { program := "ythidmgnfdikppaa", sum := "2af30694a0b9f48fecf49cb2898a2f4fcc88c95f212fc9171aa01cb77d339faa", func := "spoor/spoorlaw15.MemoryParts", spec := "memoryParts", inPlace := ["slices.overlaps[spoor/api.Cell]", "slices.overlaps[spoor/memory.page]"], unfollowed := true, recurses := true, apart := false }
def MemoryPartsSaid : Prop := memoryPartsRow.holds Try.pinned (OpenSpec.ofChange memoryPartsSpec)

/-- ITS FALSE NEIGHBOUR: 'it returns false'. Refute it at one input. -/
def memoryPartsWrong : ChangeSpec := { name := "memoryParts", fn := fun _ => fun
  | [d1, d2] => { results := [.lit (.bool false)], args := [d1, d2] }
  | _ => none }
def MemoryPartsWrongFalsely : Prop := memoryPartsRow.holds Try.pinned (OpenSpec.ofChange memoryPartsWrong)

/-- 'spoorlaw15.MemoryMerges': WHATEVER THE INPUT: true; the input reads as it did. -/
def memoryMergesSpec : ChangeSpec := { name := "memoryMerges", fn := fun _ => fun
  | [d1, d2] => { results := [.lit (.bool true)], args := [d1, d2] }
  | _ => none }
def memoryMergesRow : OpenClaim := { program := "ythidmgnfdikppaa", sum := "2af30694a0b9f48fecf49cb2898a2f4fcc88c95f212fc9171aa01cb77d339faa", func := "spoor/spoorlaw15.MemoryMerges", spec := "memoryMerges", inPlace := ["slices.overlaps[spoor/api.Cell]", "slices.overlaps[spoor/memory.page]"], unfollowed := true, recurses := true, apart := false }
def MemoryMergesSaid : Prop := memoryMergesRow.holds Try.pinned (OpenSpec.ofChange memoryMergesSpec)

/-- ITS FALSE NEIGHBOUR: 'it returns false'. Refute it at one input. -/
def memoryMergesWrong : ChangeSpec := { name := "memoryMerges", fn := fun _ => fun
  | [d1, d2] => { results := [.lit (.bool false)], args := [d1, d2] }
  | _ => none }
def MemoryMergesWrongFalsely : Prop := memoryMergesRow.holds Try.pinned (OpenSpec.ofChange memoryMergesWrong)

/- THE SECOND FORM. 'bulk': how many values and letters a reading holds, each counted each time it is reached (what is shared counts as often as it is met; a slice's spare places count too). A statement '..UptoSaid' is the law's where the arguments, and the package variables that the reading takes, are together of bulk at most 1048576: NARROWER than '..Said'. Prove '..Said' where nothing that the law and all that it calls make is longer than what came in: it says more and counts as full. Else prove '..UptoSaid'. A law counts once. -/
mutual
def uptoBulk {H : Type} : DataW H → Nat
  | .lit (.string bytes) => bytes.length + 1
  | .lit _ => 1
  | .nil => 1
  | .ptr d => uptoBulk d + 1
  | .slice elems spare => uptoBulkAll elems + uptoBulkAll spare + 1
  | .agg parts => uptoBulkAll parts + 1
  | .iface _ d => uptoBulk d + 1
  | .map entries => uptoBulkEntries entries + 1
  | .held _ => 1
def uptoBulkAll {H : Type} : List (DataW H) → Nat
  | [] => 0
  | d :: r => uptoBulk d + uptoBulkAll r
def uptoBulkEntries {H : Type} : List (Lit × DataW H) → Nat
  | [] => 0
  | x :: r => uptoBulkEntry x + uptoBulkEntries r
def uptoBulkEntry {H : Type} : Lit × DataW H → Nat
  | (.string bytes, d) => bytes.length + uptoBulk d + 1
  | (_, d) => uptoBulk d + 1
 end
def uptoSmall : (H : Type) → List (DataW H) → Bool := fun _ ds => decide (uptoBulkAll ds ≤ 1048576)
def OpenSpec.upto (s : _root_.Go.ChangeSpec) : _root_.Go.OpenSpec := { _root_.Go.OpenSpec.ofChange s with cond := some uptoSmall }

/-- 'spoorlaw10.TablesBuild', WHERE WHAT IT READS IS OF BULK AT MOST 1048576: true; the input reads as it did. -/
def tablesBuildUptoRow : OpenClaim := { program := "ythidmgnfdikppaa", sum := "2af30694a0b9f48fecf49cb2898a2f4fcc88c95f212fc9171aa01cb77d339faa", func := "spoor/spoorlaw10.TablesBuild", spec := "tablesBuild", inPlace := ["internal/abi.NoEscape"], unfollowed := true, recurses := true, apart := false, narrowed := true }
def TablesBuildUptoSaid : Prop := tablesBuildUptoRow.holds Try.pinned (OpenSpec.upto tablesBuildSpec)

/-- 'spoorlaw10.TablesOpen', WHERE WHAT IT READS IS OF BULK AT MOST 1048576: true; the input reads as it did. -/
def tablesOpenUptoRow : OpenClaim := { program := "ythidmgnfdikppaa", sum := "2af30694a0b9f48fecf49cb2898a2f4fcc88c95f212fc9171aa01cb77d339faa", func := "spoor/spoorlaw10.TablesOpen", spec := "tablesOpen", inPlace := ["internal/abi.NoEscape"], unfollowed := true, recurses := true, apart := false, narrowed := true }
def TablesOpenUptoSaid : Prop := tablesOpenUptoRow.holds Try.pinned (OpenSpec.upto tablesOpenSpec)

/-- 'spoorlaw10.TablesAsk', WHERE WHAT IT READS IS OF BULK AT MOST 1048576: true; the input reads as it did. -/
def tablesAskUptoRow : OpenClaim := { program := "ythidmgnfdikppaa", sum := "2af30694a0b9f48fecf49cb2898a2f4fcc88c95f212fc9171aa01cb77d339faa", func := "spoor/spoorlaw10.TablesAsk", spec := "tablesAsk", inPlace := ["internal/abi.NoEscape"], unfollowed := true, recurses := true, apart := false, narrowed := true }
def TablesAskUptoSaid : Prop := tablesAskUptoRow.holds Try.pinned (OpenSpec.upto tablesAskSpec)

/-- 'spoorlaw10.TablesBack', WHERE WHAT IT READS IS OF BULK AT MOST 1048576: true; the input reads as it did. -/
def tablesBackUptoRow : OpenClaim := { program := "ythidmgnfdikppaa", sum := "2af30694a0b9f48fecf49cb2898a2f4fcc88c95f212fc9171aa01cb77d339faa", func := "spoor/spoorlaw10.TablesBack", spec := "tablesBack", inPlace := ["internal/abi.NoEscape"], unfollowed := true, recurses := true, apart := false, narrowed := true }
def TablesBackUptoSaid : Prop := tablesBackUptoRow.holds Try.pinned (OpenSpec.upto tablesBackSpec)

/-- 'spoorlaw10.TablesTorn', WHERE WHAT IT READS IS OF BULK AT MOST 1048576: true; the input reads as it did. -/
def tablesTornUptoRow : OpenClaim := { program := "ythidmgnfdikppaa", sum := "2af30694a0b9f48fecf49cb2898a2f4fcc88c95f212fc9171aa01cb77d339faa", func := "spoor/spoorlaw10.TablesTorn", spec := "tablesTorn", inPlace := ["internal/abi.NoEscape"], unfollowed := true, recurses := true, apart := false, narrowed := true }
def TablesTornUptoSaid : Prop := tablesTornUptoRow.holds Try.pinned (OpenSpec.upto tablesTornSpec)

/-- 'spoorlaw10.TablesParts', WHERE WHAT IT READS IS OF BULK AT MOST 1048576: true; the input reads as it did. -/
def tablesPartsUptoRow : OpenClaim := { program := "ythidmgnfdikppaa", sum := "2af30694a0b9f48fecf49cb2898a2f4fcc88c95f212fc9171aa01cb77d339faa", func := "spoor/spoorlaw10.TablesParts", spec := "tablesParts", inPlace := ["internal/abi.NoEscape"], unfollowed := true, recurses := true, apart := false, narrowed := true }
def TablesPartsUptoSaid : Prop := tablesPartsUptoRow.holds Try.pinned (OpenSpec.upto tablesPartsSpec)

/-- 'spoorlaw10.TablesEach', WHERE WHAT IT READS IS OF BULK AT MOST 1048576: true; the input reads as it did. -/
def tablesEachUptoRow : OpenClaim := { program := "ythidmgnfdikppaa", sum := "2af30694a0b9f48fecf49cb2898a2f4fcc88c95f212fc9171aa01cb77d339faa", func := "spoor/spoorlaw10.TablesEach", spec := "tablesEach", inPlace := ["internal/abi.NoEscape"], unfollowed := true, recurses := true, apart := false, narrowed := true }
def TablesEachUptoSaid : Prop := tablesEachUptoRow.holds Try.pinned (OpenSpec.upto tablesEachSpec)

/-- 'spoorlaw10.TablesNone', WHERE WHAT IT READS IS OF BULK AT MOST 1048576: true; the input reads as it did. -/
def tablesNoneUptoRow : OpenClaim := { program := "ythidmgnfdikppaa", sum := "2af30694a0b9f48fecf49cb2898a2f4fcc88c95f212fc9171aa01cb77d339faa", func := "spoor/spoorlaw10.TablesNone", spec := "tablesNone", inPlace := ["internal/abi.NoEscape"], unfollowed := true, recurses := true, apart := false, narrowed := true }
def TablesNoneUptoSaid : Prop := tablesNoneUptoRow.holds Try.pinned (OpenSpec.upto tablesNoneSpec)

/-- 'spoorlaw11.MergesAll', WHERE WHAT IT READS IS OF BULK AT MOST 1048576: true; the input reads as it did. -/
def mergesAllUptoRow : OpenClaim := { program := "ythidmgnfdikppaa", sum := "2af30694a0b9f48fecf49cb2898a2f4fcc88c95f212fc9171aa01cb77d339faa", func := "spoor/spoorlaw11.MergesAll", spec := "mergesAll", unfollowed := true, recurses := true, apart := false, narrowed := true }
def MergesAllUptoSaid : Prop := mergesAllUptoRow.holds Try.pinned (OpenSpec.upto mergesAllSpec)

/-- 'spoorlaw11.MergesNext', WHERE WHAT IT READS IS OF BULK AT MOST 1048576: true; the input reads as it did. -/
def mergesNextUptoRow : OpenClaim := { program := "ythidmgnfdikppaa", sum := "2af30694a0b9f48fecf49cb2898a2f4fcc88c95f212fc9171aa01cb77d339faa", func := "spoor/spoorlaw11.MergesNext", spec := "mergesNext", unfollowed := true, recurses := true, apart := false, narrowed := true }
def MergesNextUptoSaid : Prop := mergesNextUptoRow.holds Try.pinned (OpenSpec.upto mergesNextSpec)

/-- 'spoorlaw11.MergesCount', WHERE WHAT IT READS IS OF BULK AT MOST 1048576: true; the input reads as it did. -/
def mergesCountUptoRow : OpenClaim := { program := "ythidmgnfdikppaa", sum := "2af30694a0b9f48fecf49cb2898a2f4fcc88c95f212fc9171aa01cb77d339faa", func := "spoor/spoorlaw11.MergesCount", spec := "mergesCount", unfollowed := true, recurses := true, apart := false, narrowed := true }
def MergesCountUptoSaid : Prop := mergesCountUptoRow.holds Try.pinned (OpenSpec.upto mergesCountSpec)

/-- 'spoorlaw11.MergesNewest', WHERE WHAT IT READS IS OF BULK AT MOST 1048576: true; the input reads as it did. -/
def mergesNewestUptoRow : OpenClaim := { program := "ythidmgnfdikppaa", sum := "2af30694a0b9f48fecf49cb2898a2f4fcc88c95f212fc9171aa01cb77d339faa", func := "spoor/spoorlaw11.MergesNewest", spec := "mergesNewest", unfollowed := true, recurses := true, apart := false, narrowed := true }
def MergesNewestUptoSaid : Prop := mergesNewestUptoRow.holds Try.pinned (OpenSpec.upto mergesNewestSpec)

/-- 'spoorlaw11.MergesOrder', WHERE WHAT IT READS IS OF BULK AT MOST 1048576: true; the input reads as it did. -/
def mergesOrderUptoRow : OpenClaim := { program := "ythidmgnfdikppaa", sum := "2af30694a0b9f48fecf49cb2898a2f4fcc88c95f212fc9171aa01cb77d339faa", func := "spoor/spoorlaw11.MergesOrder", spec := "mergesOrder", unfollowed := true, recurses := true, apart := false, narrowed := true }
def MergesOrderUptoSaid : Prop := mergesOrderUptoRow.holds Try.pinned (OpenSpec.upto mergesOrderSpec)

/-- 'spoorlaw11.MergesParts', WHERE WHAT IT READS IS OF BULK AT MOST 1048576: true; the input reads as it did. -/
def mergesPartsUptoRow : OpenClaim := { program := "ythidmgnfdikppaa", sum := "2af30694a0b9f48fecf49cb2898a2f4fcc88c95f212fc9171aa01cb77d339faa", func := "spoor/spoorlaw11.MergesParts", spec := "mergesParts", unfollowed := true, recurses := true, apart := false, narrowed := true }
def MergesPartsUptoSaid : Prop := mergesPartsUptoRow.holds Try.pinned (OpenSpec.upto mergesPartsSpec)

/-- 'spoorlaw15.MemoryPlays', WHERE WHAT IT READS IS OF BULK AT MOST 1048576: true; the input reads as it did. -/
def memoryPlaysUptoRow : OpenClaim := { program := "ythidmgnfdikppaa", sum := "2af30694a0b9f48fecf49cb2898a2f4fcc88c95f212fc9171aa01cb77d339faa", func := "spoor/spoorlaw15.MemoryPlays", spec := "memoryPlays", inPlace := ["slices.overlaps[spoor/api.Cell]", "slices.overlaps[spoor/memory.page]"], unfollowed := true, recurses := true, apart := false, narrowed := true }
def MemoryPlaysUptoSaid : Prop := memoryPlaysUptoRow.holds Try.pinned (OpenSpec.upto memoryPlaysSpec)

/-- 'spoorlaw15.MemoryCut', WHERE WHAT IT READS IS OF BULK AT MOST 1048576: true; the input reads as it did. -/
def memoryCutUptoRow : OpenClaim := { program := "ythidmgnfdikppaa", sum := "2af30694a0b9f48fecf49cb2898a2f4fcc88c95f212fc9171aa01cb77d339faa", func := "spoor/spoorlaw15.MemoryCut", spec := "memoryCut", inPlace := ["slices.overlaps[spoor/api.Cell]", "slices.overlaps[spoor/memory.page]"], unfollowed := true, recurses := true, apart := false, narrowed := true }
def MemoryCutUptoSaid : Prop := memoryCutUptoRow.holds Try.pinned (OpenSpec.upto memoryCutSpec)

/-- 'spoorlaw15.MemoryOrder', WHERE WHAT IT READS IS OF BULK AT MOST 1048576: true; the input reads as it did. -/
def memoryOrderUptoRow : OpenClaim := { program := "ythidmgnfdikppaa", sum := "2af30694a0b9f48fecf49cb2898a2f4fcc88c95f212fc9171aa01cb77d339faa", func := "spoor/spoorlaw15.MemoryOrder", spec := "memoryOrder", inPlace := ["slices.overlaps[spoor/api.Cell]", "slices.overlaps[spoor/memory.page]"], unfollowed := true, recurses := true, apart := false, narrowed := true }
def MemoryOrderUptoSaid : Prop := memoryOrderUptoRow.holds Try.pinned (OpenSpec.upto memoryOrderSpec)

/-- 'spoorlaw15.MemoryParts', WHERE WHAT IT READS IS OF BULK AT MOST 1048576: true; the input reads as it did. -/
def memoryPartsUptoRow : OpenClaim := { program := "ythidmgnfdikppaa", sum := "2af30694a0b9f48fecf49cb2898a2f4fcc88c95f212fc9171aa01cb77d339faa", func := "spoor/spoorlaw15.MemoryParts", spec := "memoryParts", inPlace := ["slices.overlaps[spoor/api.Cell]", "slices.overlaps[spoor/memory.page]"], unfollowed := true, recurses := true, apart := false, narrowed := true }
def MemoryPartsUptoSaid : Prop := memoryPartsUptoRow.holds Try.pinned (OpenSpec.upto memoryPartsSpec)

/-- 'spoorlaw15.MemoryMerges', WHERE WHAT IT READS IS OF BULK AT MOST 1048576: true; the input reads as it did. -/
def memoryMergesUptoRow : OpenClaim := { program := "ythidmgnfdikppaa", sum := "2af30694a0b9f48fecf49cb2898a2f4fcc88c95f212fc9171aa01cb77d339faa", func := "spoor/spoorlaw15.MemoryMerges", spec := "memoryMerges", inPlace := ["slices.overlaps[spoor/api.Cell]", "slices.overlaps[spoor/memory.page]"], unfollowed := true, recurses := true, apart := false, narrowed := true }
def MemoryMergesUptoSaid : Prop := memoryMergesUptoRow.holds Try.pinned (OpenSpec.upto memoryMergesSpec)

end Rows
end Go.Proofs.Ythidmgnfdikppaa
