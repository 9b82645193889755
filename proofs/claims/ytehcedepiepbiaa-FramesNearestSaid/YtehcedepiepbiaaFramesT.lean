/- Layer 4: SameTexts: are two rows of texts the same? -/
import Derived.Test.YtehcedepiepbiaaFramesW
namespace Go.Proofs.Ytehcedepiepbiaa
set_option linter.unusedVariables false
open Go Go.RowKit
attribute [local go_sem ↓] run_index_S
attribute [local go_sem] S_append S_extract

/-- A row of texts, to be read. -/
def TxtRow (w : World) (ao : Option Addr) (ps : List (List UInt8)) : Prop :=
  ∀ j, j < ps.length → ∃ g, ao = some ⟨g, 0, none⟩ ∧ w.cell? ⟨g, j, none⟩ = some (.string (S (ps.getD j [])))
theorem txtRow_of {w : World} {B : Nat} {e : TypeId} {v : Value} {ps : List (List UInt8)} (h : w.ownsRow B e 1 v ps.length (txs ps)) : ∃ ao cap, v = .slice ao ps.length cap ∧ TxtRow w ao ps := by
  have h' := World.ownsRowF_of h
  rcases h'.2 with ⟨rfl, h0⟩ | ⟨g, cap, cur, fz, rfl, _, hgg, _⟩
  · exact ⟨none, 0, by rw [h0], fun j hj => by omega⟩
  · refine ⟨some ⟨g, 0, none⟩, cap, rfl, fun j hj => ⟨g, rfl, ?_⟩⟩
    have hc := h'.cells (g := g) (by simp [Value.ownBlock]) j (.string (S (ps.getD j []))) (by simp [txs, List.getD, List.getElem?_eq_getElem hj])
    rwa [Addr.add_lit, Nat.zero_add] at hc

def SameTo (a b : List (List UInt8)) (k : Nat) : Prop := ∀ j, j < k → a.getD j [] = b.getD j []
theorem same_all {a b : List (List UInt8)} (hl : a.length = b.length) (h : SameTo a b a.length) : a = b := by
  refine List.ext_getElem hl fun j h1 h2 => ?_
  have := h j h1
  simpa [List.getD, List.getElem?_eq_getElem h1, List.getElem?_eq_getElem h2] using this

theorem TxtRow.below {w w' : World} {ao : Option Addr} {ps : List (List UInt8)} (h : TxtRow w ao ps) (hb : Below w.heap.size w w') : TxtRow w' ao ps := fun j hj => by
  obtain ⟨g, e, c⟩ := h j hj
  exact ⟨g, e, (hb.cell (p := ⟨g, j, none⟩) (block_lt_of_cell c)).trans c⟩
theorem TxtRow.cell {w : World} {g : Nat} {ps : List (List UInt8)} (h : TxtRow w (some ⟨g, 0, none⟩) ps) (j : Nat) (hj : j < ps.length) : w.cell? ⟨g, j, none⟩ = some (.string (S (ps.getD j []))) := by
  obtain ⟨g', e, c⟩ := h j hj
  simp only [Option.some.injEq, Addr.mk.injEq, and_true] at e
  rw [e]; exact c

set_option maxHeartbeats 1000000 in
theorem sameTexts_eq (a b : List (List UInt8)) (ha : a.length ≤ 140737488351232) (hl : a.length = b.length) (ao bo : Option Addr) (ca cb : Nat) (w : World) (ra : TxtRow w ao a) (rb : TxtRow w bo b) :
    Calls Try.prog 21 #[.slice ao a.length ca, .slice bo a.length cb] w fun e w' => e = .returned (.bool (decide (a = b))) ∧ Below w.heap.size w w' := by
  have HL := Lib.hid hl
  by_cases hz : 0 < a.length
  · obtain ⟨ga, rfl, _⟩ := ra 0 hz
    obtain ⟨gb, rfl, _⟩ := rb 0 (by omega)
    have RA := Lib.hid ra
    have RB := Lib.hid rb
    clear ra rb hl
    go_enter Try.func21, Try.ntmps21
    go_wp2_with fail
    go_loopw [5] (fun i wr => ∃ k : Nat, k ≤ a.length ∧ i = .int .i64 k ∧ SameTo a b k ∧ Below w.heap.size w wr) (fun i _ => a.length - (intOf i).toNat)
    case atStart => exact ⟨0, by omega, rfl, fun j hj => by omega, Below.refl _ _⟩
    case round =>
      obtain ⟨k, hk, rfl, hst, hb⟩ := hrel
      by_cases hka : k < a.length
      · have xa := (RA.out.below hb).cell k hka
        have xb := (RB.out.below hb).cell k (by have := HL.out; omega)
        have HS := Lib.hid hst
        clear hst
        by_cases he : a.getD k [] = b.getD k []
        · rw [← he] at xb
          have HE := Lib.hid he
          clear he
          go_wp2_with fail
          go_quiet (fail)
          go_wp2_with fail
          go_roundw
          case rel => exact ⟨k + 1, by omega, by go_num, fun j hj => by
            by_cases e : j = k
            · subst e; exact HE.out
            · exact HS.out j (by omega), below_drewN hb _⟩
          case measure => simp [intOf]; omega
        · have hd : decide (a = b) = false := by simp; intro e; exact he (by rw [e])
          have HD := Lib.hid hd
          clear hd
          generalize a.getD k [] = u at *
          generalize b.getD k [] = v at *
          have huv : (u == v) = false := by simpa using he
          go_wp2_with fail
          go_quiet (fail)
          go_wp2_with fail
          go_ret
          exact ⟨ret_bool HD.out.symm, below_drewN hb _⟩
      · obtain rfl : k = a.length := by omega
        have hd : decide (a = b) = true := by simp; exact same_all HL.out hst
        have HD := Lib.hid hd
        clear hd
        go_wp2_with fail
        go_ret
        exact ⟨ret_bool HD.out.symm, hb⟩
  · have hd : decide (a = b) = true := by
      have e1 : a = [] := List.length_eq_zero_iff.1 (by omega)
      have e2 : b = [] := List.length_eq_zero_iff.1 (by omega)
      simp [e1, e2]
    rw [hd]
    clear ra rb hl
    have hz0 : a.length = 0 := by omega
    rw [hz0]
    go_enter Try.func21, Try.ntmps21
    go_wp2_with fail
    refine wp_loop_rounds 1 ?_
    rw [rounds_succ]
    go_wp2_with fail
    go_ret
    exact ⟨rfl, Below.refl _ _⟩

end Go.Proofs.Ytehcedepiepbiaa
