/- Texts of lower layers, as one. -/
import Derived.Test.YtnhljlmelbiljaaGreatZC
import Derived.Test.YtnhljlmelbiljaaGreatZF
import Derived.Test.YtnhljlmelbiljaaGreatZY
import Derived.Test.YtnhljlmelbiljaaGreatZE
import Derived.Lib.QuietBelow
import Derived.Deep.QuietTactic
import Derived.BigQuiet
/- Layer 21: what has expired: the program's functions and the document's, each by a contract. -/
namespace Go.Proofs.YtnhljlmelbiljaaGreat
set_option linter.unusedVariables false
open Go Go.RowKit

end Go.Proofs.YtnhljlmelbiljaaGreat

/- Layer 21: a span's cells, the program's and the document's, by contracts. -/
namespace Go.Proofs.YtnhljlmelbiljaaGreat
set_option linter.unusedVariables false
open Go Go.RowKit
attribute [local go_sem ↓] run_index_S
attribute [local go_sem] S_append S_extract

end Go.Proofs.YtnhljlmelbiljaaGreat

/- Layer 21: the span that a cell has, the program's and the document's, by contracts. -/
namespace Go.Proofs.YtnhljlmelbiljaaGreat
set_option linter.unusedVariables false
open Go Go.RowKit
attribute [local go_sem ↓] run_index_S
attribute [local go_sem] S_append S_extract

end Go.Proofs.YtnhljlmelbiljaaGreat

/- Layer 21: whether a cell says nothing any more, the program's and the document's, by contracts. -/
namespace Go.Proofs.YtnhljlmelbiljaaGreat
set_option linter.unusedVariables false
open Go Go.RowKit
attribute [local go_sem ↓] run_index_S
attribute [local go_sem] S_append S_extract

end Go.Proofs.YtnhljlmelbiljaaGreat

/- Layer 21: the law's shelf: the last cell of a key, by a contract. -/
namespace Go.Proofs.YtnhljlmelbiljaaGreat
set_option linter.unusedVariables false
open Go Go.RowKit
attribute [local go_sem ↓] run_index_S
attribute [local go_sem] S_append S_extract

end Go.Proofs.YtnhljlmelbiljaaGreat

/- Layer 21: the spans of a batch that are taken, the program's, by a contract. -/
namespace Go.Proofs.YtnhljlmelbiljaaGreat
set_option linter.unusedVariables false
open Go Go.RowKit Go.Maps
attribute [local go_sem ↓] run_index_S
attribute [local go_sem] S_append S_extract

end Go.Proofs.YtnhljlmelbiljaaGreat

/- Layer 21: the spans of cells that have not expired, the program's, by a contract. -/
namespace Go.Proofs.YtnhljlmelbiljaaGreat
set_option linter.unusedVariables false
open Go Go.RowKit
attribute [local go_sem ↓] run_index_S
attribute [local go_sem] S_append S_extract

end Go.Proofs.YtnhljlmelbiljaaGreat

/- Layer 21: the spans of a batch that are taken, the document's, by a contract. -/
namespace Go.Proofs.YtnhljlmelbiljaaGreat
set_option linter.unusedVariables false
open Go Go.RowKit
attribute [local go_sem ↓] run_index_S
attribute [local go_sem] S_append S_extract

end Go.Proofs.YtnhljlmelbiljaaGreat


/- Layer 21: the law's own helpers: lists that are the same, lists that are too great, by contracts. -/
namespace Go.Proofs.YtnhljlmelbiljaaGreat
set_option linter.unusedVariables false
open Go Go.RowKit

theorem M.cls_ext {L K : List M.Cl} (h : L.length = K.length) (hj : ∀ j, j < L.length → L.getD j M.cl0 = K.getD j M.cl0) : L = K := by
  apply List.ext_getElem h
  intro j h1 h2
  have := hj j h1
  simpa [List.getD, List.getElem?_eq_getElem h1, List.getElem?_eq_getElem h2] using this
theorem M.Cl.diff {x y : M.Cl} (h : ¬ x = y) : (¬ x.key = y.key) ∨ (x.key = y.key ∧ ¬ x.seq = y.seq) ∨ (x.key = y.key ∧ x.seq = y.seq ∧ ¬ x.val = y.val) := by
  by_cases h0 : x.key = y.key
  case neg => exact .inl h0
  by_cases h1 : x.seq = y.seq
  case neg => exact .inr (.inl ⟨h0, h1⟩)
  exact .inr (.inr ⟨h0, h1, fun h2 => h (M.Cl.ext' h0 h1 h2)⟩)

set_option maxHeartbeats 1000000 in
theorem sameCells18_any {w : World} {ao bo : Option Addr} {L K : List M.Cl} (c1 c2 : Nat) (hL : ClsAt w ao L) (hK : ClsAt w bo K) (hl : L.length ≤ 140737488351232) (hk : K.length ≤ 140737488351232) :
    Calls Tryz.prog 17 #[.slice ao L.length c1, .slice bo K.length c2] w fun e w' => SameR (L = K) w e w' := by
  by_cases hlen : L.length = K.length
  · have d0 : ¬ ((L.length : Int) ≠ (K.length : Int)) := by omega
    have d1 : ((L.length : Int) != (K.length : Int)) = false := by simp; omega
    have HL := Lib.hid hL
    have HK := Lib.hid hK
    have HN := Lib.hid hlen
    clear hL hK hlen
    go_enter Tryz.func17, Tryz.ntmps17
    go_wp2_with fail
    go_loopw [5] (fun i wr => ∃ k : Nat, k ≤ L.length ∧ i = .int .i64 k ∧ (∀ j, j < k → L.getD j M.cl0 = K.getD j M.cl0) ∧ Below w.heap.size w wr) (fun i _ => L.length - (intOf i).toNat)
    case atStart => exact ⟨0, by omega, rfl, fun j hj => by omega, Below.refl _ _⟩
    case round =>
      rename_i wr
      obtain ⟨k, hkl, rfl, hj, hb⟩ := hrel
      have HJ := Lib.hid hj
      have HW := Lib.hid hb
      clear hj
      by_cases hlt : k < L.length
      · have hd : decide ((k : Int) < (L.length : Int)) = true := by simp; omega
        obtain ⟨g, off, rfl, hc⟩ := (HL.out.below hb).off k hlt
        obtain ⟨g', off', rfl, hc'⟩ := (HK.out.below hb).off k (by have := HN.out; omega)
        obtain ⟨x0, x1, x2⟩ := hc
        obtain ⟨y0, y1, y2⟩ := hc'
        have hkk : (k : Int) < (K.length : Int) := by have := HN.out; omega
        by_cases hxy : L.getD k M.cl0 = K.getD k M.cl0
        · rw [← hxy] at y0 y1 y2
          clear hb
          generalize hxe : L.getD k M.cl0 = x at *
          have HXE := Lib.hid hxe
          have HYE := Lib.hid hxy.symm
          clear hxe hxy
          go_wp2_with fail
          go_region
          go_wp2_with fail
          go_roundw
          case rel => exact ⟨k + 1, by omega, by go_num, fun j hj => by
            by_cases e : j = k
            · rw [e, HXE.out, HYE.out]
            · exact HJ.out j (by omega), HW.out.drew⟩
          case measure => simp [intOf]; omega
        · clear hb
          have HX := Lib.hid (show ¬ L = K from fun h => hxy (by rw [h]))
          generalize L.getD k M.cl0 = x at *
          generalize K.getD k M.cl0 = y at *
          rcases M.Cl.diff hxy with h | h | h
          all_goals
            clear hxy
            (try obtain ⟨h1, h⟩ := h)
            (try obtain ⟨h2, h⟩ := h)
            go_wp2_with fail
            go_region
            go_wp2_with fail
            go_ret
            exact SameR.no HX.out HW.out.drew
      · obtain rfl : k = L.length := by omega
        have hd : decide ((L.length : Int) < (L.length : Int)) = false := by simp
        go_wp2_with fail
        go_ret
        exact SameR.yes (M.cls_ext HN.out HJ.out) HW.out
  · have d1 : ((L.length : Int) != (K.length : Int)) = true := by simp; omega
    have HN := Lib.hid hlen
    clear hlen hL hK
    go_enter Tryz.func17, Tryz.ntmps17
    go_wp2_with fail
    go_ret
    exact SameR.no (fun h => HN.out (by rw [h])) (Below.refl _ _)


end Go.Proofs.YtnhljlmelbiljaaGreat

/- Layer 21: the law's own helpers: lists that are too great; spans' cells on a shelf, by contracts. -/
namespace Go.Proofs.YtnhljlmelbiljaaGreat
set_option linter.unusedVariables false
open Go Go.RowKit

def SmallC (c : M.Cl) : Prop := c.key.length ≤ 300 ∧ c.val.length ≤ 300
def SmallCs (L : List M.Cl) (n : Nat) : Prop := L.length ≤ n ∧ ∀ x ∈ L, SmallC x
theorem smallCs_of {L : List M.Cl} {n : Nat} (h : L.length ≤ n) (hj : ∀ j, j < L.length → SmallC (L.getD j M.cl0)) : SmallCs L n := by
  refine ⟨h, fun x hx => ?_⟩
  obtain ⟨j, hj', rfl⟩ := List.getElem_of_mem hx
  simpa [List.getD, List.getElem?_eq_getElem hj'] using hj j hj'
def BeyCR (L : List M.Cl) (n : Nat) (w : World) (e : Ending) (w' : World) : Prop := (e = .returned (.bool true) ∨ (e = .returned (.bool false) ∧ SmallCs L n)) ∧ w = w'

set_option maxHeartbeats 1000000 in
theorem beyond18_any {w : World} {ao : Option Addr} (L : List M.Cl) (cap n : Nat) (hn : n ≤ 1000) (hs : ClsAt w ao L) (hl : L.length ≤ 9223372036854775807) :
    Calls Tryz.prog 26 #[.slice ao L.length cap, .int .i64 n] w fun e w' => BeyCR L n w e w' := by
  have HS := Lib.hid hs
  clear hs
  by_cases hlen : L.length ≤ n
  · have d0 : decide ((n : Int) < (L.length : Int)) = false := by simp; omega
    have HLN := Lib.hid hlen
    go_enter Tryz.func26, Tryz.ntmps26
    go_wp2_with fail
    clear d0
    go_loop [5] (fun i => ∃ k : Nat, k ≤ L.length ∧ i = .int .i64 k ∧ (∀ j, j < k → SmallC (L.getD j M.cl0))) (fun i => L.length - (intOf i).toNat)
    case atStart => exact ⟨0, by omega, rfl, fun j hj => by omega⟩
    case round =>
      obtain ⟨k, hk, rfl, hj⟩ := hrel
      have HJ := Lib.hid hj
      clear hj
      by_cases hlt : k < L.length
      · have d1 : decide ((k : Int) < (L.length : Int)) = true := by simp; omega
        have hki : (k : Int) < (L.length : Int) := by omega
        obtain ⟨g, off, rfl, hc⟩ := HS.out.off k hlt
        obtain ⟨x0, x1, x2⟩ := hc
        generalize hxe : L.getD k M.cl0 = x at *
        have HXE := Lib.hid hxe
        clear hxe x1
        by_cases hx : SmallC x
        · obtain ⟨s1, s2⟩ := hx
          have e1 : decide (300 < (x.key.length : Int)) = false := by simp; omega
          have e2 : decide (300 < (x.val.length : Int)) = false := by simp; omega
          have HSM := Lib.hid (show SmallC x from ⟨s1, s2⟩)
          clear s1 s2
          go_wp2_with fail
          go_round
          case rel => exact ⟨k + 1, by omega, by go_num, fun j hj => by
            by_cases e : j = k
            · rw [e, HXE.out]; exact HSM.out
            · exact HJ.out j (by omega)⟩
          case measure => simp [intOf]; omega
        · have hx' : 300 < x.key.length ∨ 300 < x.val.length := by unfold SmallC at hx; omega
          clear hx
          go_wp2_with fail
          all_goals first
            | (go_ret; exact ⟨.inl rfl, rfl⟩)
            | (exfalso; omega)
      · obtain rfl : k = L.length := by omega
        have HSB := Lib.hid (smallCs_of HLN.out HJ.out)
        have d1 : decide ((L.length : Int) < (L.length : Int)) = false := by simp
        clear hlt
        go_wp2_with fail
        go_ret
        exact ⟨.inr ⟨rfl, HSB.out⟩, rfl⟩
  · have d0 : decide ((n : Int) < (L.length : Int)) = true := by simp; omega
    go_enter Tryz.func26, Tryz.ntmps26
    go_wp2_with fail
    go_ret
    exact ⟨.inl rfl, rfl⟩

end Go.Proofs.YtnhljlmelbiljaaGreat
