/-
  No cell of these rows narrows 'for every input' (looked for: loops, veiled, ifaces, maps, wideKeys, modest, calm, conditions, laid).
  DERIVED. THE GIVEN ROWS OF THIS SEAT. 13 by the template 'for every input the law returns true; each argument reads behind the call as it read before'; 0 by the template 'total and deterministic' (their statements: YtekmnpmeienhhaaTotals.lean).
  GIVEN WITH THE SEED: the statements are not yours to turn. If you find one false, say at which input.
  Laid BY PROGRAM, IN A SANDBOX (cutbox-rows.mjs): the forced cells as the released guide's own fill.sh prints them over the translation a9842d31c403ae28… (all of the seat's roots in one cut). By AI agents, Wed Nov 11 2026. No macro, syntax, notation, axiom, sorry.
-/
import Derived.Test.YtekmnpmeienhhaaChecked
import GoSem.Claim
import GoSem.ClaimJoined
import GoSem.ClaimMapViews
import Derived.JoinedTies
import Derived.KernelRfl
namespace Go.Proofs.Ytekmnpmeienhhaa
/- THE CELL 'sum', in the pinned program and in every row, IS THE sha256 OF THE DUMP (.gsa) THAT YtekmnpmeienhhaaProg.lean LOADS. Nothing in Lean hashes anything: it is a label: what it is worth is what the hold of that sum in a sandbox is worth. -/
noncomputable def Try.pinned : Pinned := { name := "ytekmnpmeienhhaa", sum := "a9842d31c403ae28301766780d9b2916e73b34b062e8def4b65285ef71357c3b", checked := Try.checked }
namespace Rows
def none {H : Type} : Left H := { results := [], args := [] }

/-- 'spoorlaw05.DiskPlays': WHATEVER THE INPUT: true; the input reads as it did. -/
def diskPlaysSpec : ChangeSpec := { name := "diskPlays", fn := fun _ => fun
  | [d1, d2] => { results := [.lit (.bool true)], args := [d1, d2] }
  | _ => none }
def diskPlaysRow : OpenClaim := { program := "ytekmnpmeienhhaa", sum := "a9842d31c403ae28301766780d9b2916e73b34b062e8def4b65285ef71357c3b", func := "spoor/spoorlaw05.DiskPlays", spec := "diskPlays", unfollowed := true, recurses := true, apart := false }
def DiskPlaysSaid : Prop := diskPlaysRow.holds Try.pinned (OpenSpec.ofChange diskPlaysSpec)

/-- ITS FALSE NEIGHBOUR: 'it returns false'. Refute it at one input. -/
def diskPlaysWrong : ChangeSpec := { name := "diskPlays", fn := fun _ => fun
  | [d1, d2] => { results := [.lit (.bool false)], args := [d1, d2] }
  | _ => none }
def DiskPlaysWrongFalsely : Prop := diskPlaysRow.holds Try.pinned (OpenSpec.ofChange diskPlaysWrong)

/-- 'spoorlaw05.DiskNone': WHATEVER THE INPUT: true; the input reads as it did. -/
def diskNoneSpec : ChangeSpec := { name := "diskNone", fn := fun _ => fun
  | [d] => { results := [.lit (.bool true)], args := [d] }
  | _ => none }
def diskNoneRow : OpenClaim := { program := "ytekmnpmeienhhaa", sum := "a9842d31c403ae28301766780d9b2916e73b34b062e8def4b65285ef71357c3b", func := "spoor/spoorlaw05.DiskNone", spec := "diskNone", unfollowed := true, recurses := true, apart := false }
def DiskNoneSaid : Prop := diskNoneRow.holds Try.pinned (OpenSpec.ofChange diskNoneSpec)

/-- ITS FALSE NEIGHBOUR: 'it returns false'. Refute it at one input. -/
def diskNoneWrong : ChangeSpec := { name := "diskNone", fn := fun _ => fun
  | [d] => { results := [.lit (.bool false)], args := [d] }
  | _ => none }
def DiskNoneWrongFalsely : Prop := diskNoneRow.holds Try.pinned (OpenSpec.ofChange diskNoneWrong)

/-- 'spoorlaw05.DiskCrash': WHATEVER THE INPUT: true; the input reads as it did. -/
def diskCrashSpec : ChangeSpec := { name := "diskCrash", fn := fun _ => fun
  | [d1, d2, d3] => { results := [.lit (.bool true)], args := [d1, d2, d3] }
  | _ => none }
def diskCrashRow : OpenClaim := { program := "ytekmnpmeienhhaa", sum := "a9842d31c403ae28301766780d9b2916e73b34b062e8def4b65285ef71357c3b", func := "spoor/spoorlaw05.DiskCrash", spec := "diskCrash", unfollowed := true, recurses := true, apart := false }
def DiskCrashSaid : Prop := diskCrashRow.holds Try.pinned (OpenSpec.ofChange diskCrashSpec)

/-- ITS FALSE NEIGHBOUR: 'it returns false'. Refute it at one input. -/
def diskCrashWrong : ChangeSpec := { name := "diskCrash", fn := fun _ => fun
  | [d1, d2, d3] => { results := [.lit (.bool false)], args := [d1, d2, d3] }
  | _ => none }
def DiskCrashWrongFalsely : Prop := diskCrashRow.holds Try.pinned (OpenSpec.ofChange diskCrashWrong)

/-- 'spoorlaw05.DiskFail': WHATEVER THE INPUT: true; the input reads as it did. -/
def diskFailSpec : ChangeSpec := { name := "diskFail", fn := fun _ => fun
  | [d1, d2, d3] => { results := [.lit (.bool true)], args := [d1, d2, d3] }
  | _ => none }
def diskFailRow : OpenClaim := { program := "ytekmnpmeienhhaa", sum := "a9842d31c403ae28301766780d9b2916e73b34b062e8def4b65285ef71357c3b", func := "spoor/spoorlaw05.DiskFail", spec := "diskFail", unfollowed := true, recurses := true, apart := false }
def DiskFailSaid : Prop := diskFailRow.holds Try.pinned (OpenSpec.ofChange diskFailSpec)

/-- ITS FALSE NEIGHBOUR: 'it returns false'. Refute it at one input. -/
def diskFailWrong : ChangeSpec := { name := "diskFail", fn := fun _ => fun
  | [d1, d2, d3] => { results := [.lit (.bool false)], args := [d1, d2, d3] }
  | _ => none }
def DiskFailWrongFalsely : Prop := diskFailRow.holds Try.pinned (OpenSpec.ofChange diskFailWrong)

/-- 'spoorlaw05.DiskRoom': WHATEVER THE INPUT: true; the input reads as it did. -/
def diskRoomSpec : ChangeSpec := { name := "diskRoom", fn := fun _ => fun
  | [d1, d2] => { results := [.lit (.bool true)], args := [d1, d2] }
  | _ => none }
def diskRoomRow : OpenClaim := { program := "ytekmnpmeienhhaa", sum := "a9842d31c403ae28301766780d9b2916e73b34b062e8def4b65285ef71357c3b", func := "spoor/spoorlaw05.DiskRoom", spec := "diskRoom", unfollowed := true, recurses := true, apart := false }
def DiskRoomSaid : Prop := diskRoomRow.holds Try.pinned (OpenSpec.ofChange diskRoomSpec)

/-- ITS FALSE NEIGHBOUR: 'it returns false'. Refute it at one input. -/
def diskRoomWrong : ChangeSpec := { name := "diskRoom", fn := fun _ => fun
  | [d1, d2] => { results := [.lit (.bool false)], args := [d1, d2] }
  | _ => none }
def DiskRoomWrongFalsely : Prop := diskRoomRow.holds Try.pinned (OpenSpec.ofChange diskRoomWrong)

/-- 'spoorlaw05.DiskSwap': WHATEVER THE INPUT: true; the input reads as it did. -/
def diskSwapSpec : ChangeSpec := { name := "diskSwap", fn := fun _ => fun
  | [d1, d2, d3] => { results := [.lit (.bool true)], args := [d1, d2, d3] }
  | _ => none }
def diskSwapRow : OpenClaim := { program := "ytekmnpmeienhhaa", sum := "a9842d31c403ae28301766780d9b2916e73b34b062e8def4b65285ef71357c3b", func := "spoor/spoorlaw05.DiskSwap", spec := "diskSwap", unfollowed := true, recurses := true, apart := false }
def DiskSwapSaid : Prop := diskSwapRow.holds Try.pinned (OpenSpec.ofChange diskSwapSpec)

/-- ITS FALSE NEIGHBOUR: 'it returns false'. Refute it at one input. -/
def diskSwapWrong : ChangeSpec := { name := "diskSwap", fn := fun _ => fun
  | [d1, d2, d3] => { results := [.lit (.bool false)], args := [d1, d2, d3] }
  | _ => none }
def DiskSwapWrongFalsely : Prop := diskSwapRow.holds Try.pinned (OpenSpec.ofChange diskSwapWrong)

/-- 'spoorlaw05.DiskMany': WHATEVER THE INPUT: true; the input reads as it did. -/
def diskManySpec : ChangeSpec := { name := "diskMany", fn := fun _ => fun
  | [d1, d2] => { results := [.lit (.bool true)], args := [d1, d2] }
  | _ => none }
def diskManyRow : OpenClaim := { program := "ytekmnpmeienhhaa", sum := "a9842d31c403ae28301766780d9b2916e73b34b062e8def4b65285ef71357c3b", func := "spoor/spoorlaw05.DiskMany", spec := "diskMany", unfollowed := true, recurses := true, apart := false }
def DiskManySaid : Prop := diskManyRow.holds Try.pinned (OpenSpec.ofChange diskManySpec)

/-- ITS FALSE NEIGHBOUR: 'it returns false'. Refute it at one input. -/
def diskManyWrong : ChangeSpec := { name := "diskMany", fn := fun _ => fun
  | [d1, d2] => { results := [.lit (.bool false)], args := [d1, d2] }
  | _ => none }
def DiskManyWrongFalsely : Prop := diskManyRow.holds Try.pinned (OpenSpec.ofChange diskManyWrong)

/-- 'spoorlaw13.CursorsBytes': WHATEVER THE INPUT: true; the input reads as it did. -/
def cursorsBytesSpec : ChangeSpec := { name := "cursorsBytes", fn := fun _ => fun
  | [d1, d2] => { results := [.lit (.bool true)], args := [d1, d2] }
  | _ => none }
def cursorsBytesRow : OpenClaim := { program := "ytekmnpmeienhhaa", sum := "a9842d31c403ae28301766780d9b2916e73b34b062e8def4b65285ef71357c3b", func := "spoor/spoorlaw13.CursorsBytes", spec := "cursorsBytes", unfollowed := true, recurses := true, apart := false }
def CursorsBytesSaid : Prop := cursorsBytesRow.holds Try.pinned (OpenSpec.ofChange cursorsBytesSpec)

/-- ITS FALSE NEIGHBOUR: 'it returns false'. Refute it at one input. -/
def cursorsBytesWrong : ChangeSpec := { name := "cursorsBytes", fn := fun _ => fun
  | [d1, d2] => { results := [.lit (.bool false)], args := [d1, d2] }
  | _ => none }
def CursorsBytesWrongFalsely : Prop := cursorsBytesRow.holds Try.pinned (OpenSpec.ofChange cursorsBytesWrong)

/-- 'spoorlaw13.CursorsPlay': WHATEVER THE INPUT: true; the input reads as it did. -/
def cursorsPlaySpec : ChangeSpec := { name := "cursorsPlay", fn := fun _ => fun
  | [d1, d2] => { results := [.lit (.bool true)], args := [d1, d2] }
  | _ => none }
def cursorsPlayRow : OpenClaim := { program := "ytekmnpmeienhhaa", sum := "a9842d31c403ae28301766780d9b2916e73b34b062e8def4b65285ef71357c3b", func := "spoor/spoorlaw13.CursorsPlay", spec := "cursorsPlay", unfollowed := true, recurses := true, apart := false }
def CursorsPlaySaid : Prop := cursorsPlayRow.holds Try.pinned (OpenSpec.ofChange cursorsPlaySpec)

/-- ITS FALSE NEIGHBOUR: 'it returns false'. Refute it at one input. -/
def cursorsPlayWrong : ChangeSpec := { name := "cursorsPlay", fn := fun _ => fun
  | [d1, d2] => { results := [.lit (.bool false)], args := [d1, d2] }
  | _ => none }
def CursorsPlayWrongFalsely : Prop := cursorsPlayRow.holds Try.pinned (OpenSpec.ofChange cursorsPlayWrong)

/-- 'spoorlaw13.CursorsNone': WHATEVER THE INPUT: true; the input reads as it did. -/
def cursorsNoneSpec : ChangeSpec := { name := "cursorsNone", fn := fun _ => fun
  | [d] => { results := [.lit (.bool true)], args := [d] }
  | _ => none }
def cursorsNoneRow : OpenClaim := { program := "ytekmnpmeienhhaa", sum := "a9842d31c403ae28301766780d9b2916e73b34b062e8def4b65285ef71357c3b", func := "spoor/spoorlaw13.CursorsNone", spec := "cursorsNone", unfollowed := true, recurses := true, apart := false }
def CursorsNoneSaid : Prop := cursorsNoneRow.holds Try.pinned (OpenSpec.ofChange cursorsNoneSpec)

/-- ITS FALSE NEIGHBOUR: 'it returns false'. Refute it at one input. -/
def cursorsNoneWrong : ChangeSpec := { name := "cursorsNone", fn := fun _ => fun
  | [d] => { results := [.lit (.bool false)], args := [d] }
  | _ => none }
def CursorsNoneWrongFalsely : Prop := cursorsNoneRow.holds Try.pinned (OpenSpec.ofChange cursorsNoneWrong)

/-- 'spoorlaw13.CursorsTorn': WHATEVER THE INPUT: true; the input reads as it did. -/
def cursorsTornSpec : ChangeSpec := { name := "cursorsTorn", fn := fun _ => fun
  | [d] => { results := [.lit (.bool true)], args := [d] }
  | _ => none }
def cursorsTornRow : OpenClaim := { program := "ytekmnpmeienhhaa", sum := "a9842d31c403ae28301766780d9b2916e73b34b062e8def4b65285ef71357c3b", func := "spoor/spoorlaw13.CursorsTorn", spec := "cursorsTorn", unfollowed := true, recurses := true, apart := false }
def CursorsTornSaid : Prop := cursorsTornRow.holds Try.pinned (OpenSpec.ofChange cursorsTornSpec)

/-- ITS FALSE NEIGHBOUR: 'it returns false'. Refute it at one input. -/
def cursorsTornWrong : ChangeSpec := { name := "cursorsTorn", fn := fun _ => fun
  | [d] => { results := [.lit (.bool false)], args := [d] }
  | _ => none }
def CursorsTornWrongFalsely : Prop := cursorsTornRow.holds Try.pinned (OpenSpec.ofChange cursorsTornWrong)

/-- 'spoorlaw13.CursorsBack': WHATEVER THE INPUT: true; the input reads as it did. -/
def cursorsBackSpec : ChangeSpec := { name := "cursorsBack", fn := fun _ => fun
  | [d1, d2, d3] => { results := [.lit (.bool true)], args := [d1, d2, d3] }
  | _ => none }
def cursorsBackRow : OpenClaim := { program := "ytekmnpmeienhhaa", sum := "a9842d31c403ae28301766780d9b2916e73b34b062e8def4b65285ef71357c3b", func := "spoor/spoorlaw13.CursorsBack", spec := "cursorsBack", unfollowed := true, recurses := true, apart := false }
def CursorsBackSaid : Prop := cursorsBackRow.holds Try.pinned (OpenSpec.ofChange cursorsBackSpec)

/-- ITS FALSE NEIGHBOUR: 'it returns false'. Refute it at one input. -/
def cursorsBackWrong : ChangeSpec := { name := "cursorsBack", fn := fun _ => fun
  | [d1, d2, d3] => { results := [.lit (.bool false)], args := [d1, d2, d3] }
  | _ => none }
def CursorsBackWrongFalsely : Prop := cursorsBackRow.holds Try.pinned (OpenSpec.ofChange cursorsBackWrong)

/-- 'spoorlaw13.CursorsAlone': WHATEVER THE INPUT: true; the input reads as it did. -/
def cursorsAloneSpec : ChangeSpec := { name := "cursorsAlone", fn := fun _ => fun
  | [d1, d2, d3] => { results := [.lit (.bool true)], args := [d1, d2, d3] }
  | _ => none }
def cursorsAloneRow : OpenClaim := { program := "ytekmnpmeienhhaa", sum := "a9842d31c403ae28301766780d9b2916e73b34b062e8def4b65285ef71357c3b", func := "spoor/spoorlaw13.CursorsAlone", spec := "cursorsAlone", unfollowed := true, recurses := true, apart := false }
def CursorsAloneSaid : Prop := cursorsAloneRow.holds Try.pinned (OpenSpec.ofChange cursorsAloneSpec)

/-- ITS FALSE NEIGHBOUR: 'it returns false'. Refute it at one input. -/
def cursorsAloneWrong : ChangeSpec := { name := "cursorsAlone", fn := fun _ => fun
  | [d1, d2, d3] => { results := [.lit (.bool false)], args := [d1, d2, d3] }
  | _ => none }
def CursorsAloneWrongFalsely : Prop := cursorsAloneRow.holds Try.pinned (OpenSpec.ofChange cursorsAloneWrong)

/- THE SECOND FORM. 'bulk': how many values and letters a reading holds, each counted each time it is reached (what is shared counts as often as it is met; a slice's spare places count too). A statement '..UptoSaid' is the law's where the arguments, and the package variables that the reading takes, are together of bulk at most 1048576: NARROWER than '..Said'. Prove '..Said' where nothing that the law and all that it calls make is longer than what came in: it says more and counts as full. Else prove '..UptoSaid'. A law counts once. -/
mutual
def uptoBulk {H : Type} : DataW H → Nat
  | .lit (.string bytes) => bytes.length + 1
  | .lit _ => 1
  | .nil => 1
  | .ptr d => uptoBulk d + 1
  | .slice elems spare => uptoBulkAll elems + uptoBulkAll spare + 1
  | .agg parts => uptoBulkAll parts + 1
  | .iface _ d => uptoBulk d + 1
  | .map entries => uptoBulkEntries entries + 1
  | .held _ => 1
def uptoBulkAll {H : Type} : List (DataW H) → Nat
  | [] => 0
  | d :: r => uptoBulk d + uptoBulkAll r
def uptoBulkEntries {H : Type} : List (Lit × DataW H) → Nat
  | [] => 0
  | x :: r => uptoBulkEntry x + uptoBulkEntries r
def uptoBulkEntry {H : Type} : Lit × DataW H → Nat
  | (.string bytes, d) => bytes.length + uptoBulk d + 1
  | (_, d) => uptoBulk d + 1
 end
def uptoSmall : (H : Type) → List (DataW H) → Bool := fun _ ds => decide (uptoBulkAll ds ≤ 1048576)
def OpenSpec.upto (s : _root_.Go.ChangeSpec) : _root_.Go.OpenSpec := { _root_.Go.OpenSpec.ofChange s with cond := some uptoSmall }

/-- 'spoorlaw05.DiskPlays', WHERE WHAT IT READS IS OF BULK AT MOST 1048576: true; the input reads as it did. -/
def diskPlaysUptoRow : OpenClaim := { program := "ytekmnpmeienhhaa", sum := "a9842d31c403ae28301766780d9b2916e73b34b062e8def4b65285ef71357c3b", func := "spoor/spoorlaw05.DiskPlays", spec := "diskPlays", unfollowed := true, recurses := true, apart := false, narrowed := true }
def DiskPlaysUptoSaid : Prop := diskPlaysUptoRow.holds Try.pinned (OpenSpec.upto diskPlaysSpec)

/-- 'spoorlaw05.DiskNone', WHERE WHAT IT READS IS OF BULK AT MOST 1048576: true; the input reads as it did. -/
def diskNoneUptoRow : OpenClaim := { program := "ytekmnpmeienhhaa", sum := "a9842d31c403ae28301766780d9b2916e73b34b062e8def4b65285ef71357c3b", func := "spoor/spoorlaw05.DiskNone", spec := "diskNone", unfollowed := true, recurses := true, apart := false, narrowed := true }
def DiskNoneUptoSaid : Prop := diskNoneUptoRow.holds Try.pinned (OpenSpec.upto diskNoneSpec)

/-- 'spoorlaw05.DiskCrash', WHERE WHAT IT READS IS OF BULK AT MOST 1048576: true; the input reads as it did. -/
def diskCrashUptoRow : OpenClaim := { program := "ytekmnpmeienhhaa", sum := "a9842d31c403ae28301766780d9b2916e73b34b062e8def4b65285ef71357c3b", func := "spoor/spoorlaw05.DiskCrash", spec := "diskCrash", unfollowed := true, recurses := true, apart := false, narrowed := true }
def DiskCrashUptoSaid : Prop := diskCrashUptoRow.holds Try.pinned (OpenSpec.upto diskCrashSpec)

/-- 'spoorlaw05.DiskFail', WHERE WHAT IT READS IS OF BULK AT MOST 1048576: true; the input reads as it did. -/
def diskFailUptoRow : OpenClaim := { program := "ytekmnpmeienhhaa", sum := "a9842d31c403ae28301766780d9b2916e73b34b062e8def4b65285ef71357c3b", func := "spoor/spoorlaw05.DiskFail", spec := "diskFail", unfollowed := true, recurses := true, apart := false, narrowed := true }
def DiskFailUptoSaid : Prop := diskFailUptoRow.holds Try.pinned (OpenSpec.upto diskFailSpec)

/-- 'spoorlaw05.DiskRoom', WHERE WHAT IT READS IS OF BULK AT MOST 1048576: true; the input reads as it did. -/
def diskRoomUptoRow : OpenClaim := { program := "ytekmnpmeienhhaa", sum := "a9842d31c403ae28301766780d9b2916e73b34b062e8def4b65285ef71357c3b", func := "spoor/spoorlaw05.DiskRoom", spec := "diskRoom", unfollowed := true, recurses := true, apart := false, narrowed := true }
def DiskRoomUptoSaid : Prop := diskRoomUptoRow.holds Try.pinned (OpenSpec.upto diskRoomSpec)

/-- 'spoorlaw05.DiskSwap', WHERE WHAT IT READS IS OF BULK AT MOST 1048576: true; the input reads as it did. -/
def diskSwapUptoRow : OpenClaim := { program := "ytekmnpmeienhhaa", sum := "a9842d31c403ae28301766780d9b2916e73b34b062e8def4b65285ef71357c3b", func := "spoor/spoorlaw05.DiskSwap", spec := "diskSwap", unfollowed := true, recurses := true, apart := false, narrowed := true }
def DiskSwapUptoSaid : Prop := diskSwapUptoRow.holds Try.pinned (OpenSpec.upto diskSwapSpec)

/-- 'spoorlaw05.DiskMany', WHERE WHAT IT READS IS OF BULK AT MOST 1048576: true; the input reads as it did. -/
def diskManyUptoRow : OpenClaim := { program := "ytekmnpmeienhhaa", sum := "a9842d31c403ae28301766780d9b2916e73b34b062e8def4b65285ef71357c3b", func := "spoor/spoorlaw05.DiskMany", spec := "diskMany", unfollowed := true, recurses := true, apart := false, narrowed := true }
def DiskManyUptoSaid : Prop := diskManyUptoRow.holds Try.pinned (OpenSpec.upto diskManySpec)

/-- 'spoorlaw13.CursorsBytes', WHERE WHAT IT READS IS OF BULK AT MOST 1048576: true; the input reads as it did. -/
def cursorsBytesUptoRow : OpenClaim := { program := "ytekmnpmeienhhaa", sum := "a9842d31c403ae28301766780d9b2916e73b34b062e8def4b65285ef71357c3b", func := "spoor/spoorlaw13.CursorsBytes", spec := "cursorsBytes", unfollowed := true, recurses := true, apart := false, narrowed := true }
def CursorsBytesUptoSaid : Prop := cursorsBytesUptoRow.holds Try.pinned (OpenSpec.upto cursorsBytesSpec)

/-- 'spoorlaw13.CursorsPlay', WHERE WHAT IT READS IS OF BULK AT MOST 1048576: true; the input reads as it did. -/
def cursorsPlayUptoRow : OpenClaim := { program := "ytekmnpmeienhhaa", sum := "a9842d31c403ae28301766780d9b2916e73b34b062e8def4b65285ef71357c3b", func := "spoor/spoorlaw13.CursorsPlay", spec := "cursorsPlay", unfollowed := true, recurses := true, apart := false, narrowed := true }
def CursorsPlayUptoSaid : Prop := cursorsPlayUptoRow.holds Try.pinned (OpenSpec.upto cursorsPlaySpec)

/-- 'spoorlaw13.CursorsNone', WHERE WHAT IT READS IS OF BULK AT MOST 1048576: true; the input reads as it did. -/
def cursorsNoneUptoRow : OpenClaim := { program := "ytekmnpmeienhhaa", sum := "a9842d31c403ae28301766780d9b2916e73b34b062e8def4b65285ef71357c3b", func := "spoor/spoorlaw13.CursorsNone", spec := "cursorsNone", unfollowed := true, recurses := true, apart := false, narrowed := true }
def CursorsNoneUptoSaid : Prop := cursorsNoneUptoRow.holds Try.pinned (OpenSpec.upto cursorsNoneSpec)

/-- 'spoorlaw13.CursorsTorn', WHERE WHAT IT READS IS OF BULK AT MOST 1048576: true; the input reads as it did. -/
def cursorsTornUptoRow : OpenClaim := { program := "ytekmnpmeienhhaa", sum := "a9842d31c403ae28301766780d9b2916e73b34b062e8def4b65285ef71357c3b", func := "spoor/spoorlaw13.CursorsTorn", spec := "cursorsTorn", unfollowed := true, recurses := true, apart := false, narrowed := true }
def CursorsTornUptoSaid : Prop := cursorsTornUptoRow.holds Try.pinned (OpenSpec.upto cursorsTornSpec)

/-- 'spoorlaw13.CursorsBack', WHERE WHAT IT READS IS OF BULK AT MOST 1048576: true; the input reads as it did. -/
def cursorsBackUptoRow : OpenClaim := { program := "ytekmnpmeienhhaa", sum := "a9842d31c403ae28301766780d9b2916e73b34b062e8def4b65285ef71357c3b", func := "spoor/spoorlaw13.CursorsBack", spec := "cursorsBack", unfollowed := true, recurses := true, apart := false, narrowed := true }
def CursorsBackUptoSaid : Prop := cursorsBackUptoRow.holds Try.pinned (OpenSpec.upto cursorsBackSpec)

/-- 'spoorlaw13.CursorsAlone', WHERE WHAT IT READS IS OF BULK AT MOST 1048576: true; the input reads as it did. -/
def cursorsAloneUptoRow : OpenClaim := { program := "ytekmnpmeienhhaa", sum := "a9842d31c403ae28301766780d9b2916e73b34b062e8def4b65285ef71357c3b", func := "spoor/spoorlaw13.CursorsAlone", spec := "cursorsAlone", unfollowed := true, recurses := true, apart := false, narrowed := true }
def CursorsAloneUptoSaid : Prop := cursorsAloneUptoRow.holds Try.pinned (OpenSpec.upto cursorsAloneSpec)

end Rows
end Go.Proofs.Ytekmnpmeienhhaa
