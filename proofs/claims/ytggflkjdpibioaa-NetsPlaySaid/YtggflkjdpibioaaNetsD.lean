/- Layer 7: SameMail, and the law's own net, by contracts. -/
import Derived.Test.YtggflkjdpibioaaNetsA
namespace Go.Proofs.Ytggflkjdpibioaa
set_option linter.unusedVariables false
open Go Go.RowKit

/-- A slice of messages, whose cells are known. -/
def MlRow (W : World) (v : Value) (L : List Ml) : Prop := ∃ ao cap, v = .slice ao L.length cap ∧ (L ≠ [] → ∃ g off, ao = some ⟨g, off, none⟩ ∧ ∀ j, j < L.length →
  W.cell? ⟨g, off + j * 3, none⟩ = some (.int .i64 (L.getD j ml0).src) ∧ W.cell? ⟨g, off + j * 3 + 1, none⟩ = some (.int .i64 (L.getD j ml0).dst) ∧ W.cell? ⟨g, off + j * 3 + 2, none⟩ = some (.string (S (L.getD j ml0).dat)))
theorem MlRow.below {w w' : World} {v : Value} {L : List Ml} (h : MlRow w v L) (hb : Below w.heap.size w w') : MlRow w' v L := by
  obtain ⟨ao, cap, rfl, h⟩ := h
  refine ⟨ao, cap, rfl, fun hn => ?_⟩
  obtain ⟨g, off, rfl, hc⟩ := h hn
  have k := fun {a v} (h : w.cell? a = some v) => (hb.cell (p := a) (block_lt_of_cell h)).trans h
  exact ⟨g, off, rfl, fun j hj => ⟨k (hc j hj).1, k (hc j hj).2.1, k (hc j hj).2.2⟩⟩
theorem mls_get (L : List Ml) (j i : Nat) (hj : j < L.length) (hi : i < 3) : (mls L)[j * 3 + i]? = (mlC (L.getD j ml0))[i]? := by
  induction L generalizing j with
  | nil => simp at hj
  | cons m t ih =>
    rw [show mls (m :: t) = mlC m ++ mls t from by simp [mls]]
    cases j with
    | zero => rw [List.getElem?_append_left (by simp [mlC]; omega)]; simp
    | succ j =>
      rw [List.getElem?_append_right (by simp [mlC]; omega), show (j + 1) * 3 + i - (mlC m).length = j * 3 + i from by simp [mlC]; omega, ih j (by simpa using hj)]
      simp
theorem mlRow_of {B : Nat} {w : World} {v : Value} {L : List Ml} {T : TypeId} (h : w.ownsRow B T 3 v L.length (mls L)) : MlRow w v L := by
  rcases h.2 with ⟨rfl, h0⟩ | ⟨g, cap, cur, rfl, _, hg, _⟩
  · have : L = [] := List.eq_nil_of_length_eq_zero h0
    subst this
    exact ⟨none, 0, rfl, fun h => absurd rfl h⟩
  · refine ⟨_, cap, rfl, fun _ => ⟨g, 0, rfl, fun j hj => ?_⟩⟩
    have hc := fun i u (hu : (mls L)[i]? = some u) => h.cells (g := g) rfl i u hu
    have ha : ∀ n : Nat, (⟨g, 0, none⟩ : Addr).add n = ⟨g, n, none⟩ := fun n => by unfold Addr.add; split <;> simp_all
    have k := fun i (hi : i < 3) => mls_get L j i hj hi
    simp only [ha] at hc
    refine ⟨?_, ?_, ?_⟩
    · rw [Nat.zero_add]; exact hc _ _ ((k 0 (by omega)).trans rfl)
    · rw [Nat.zero_add]; exact hc _ _ ((k 1 (by omega)).trans rfl)
    · rw [Nat.zero_add]; exact hc _ _ ((k 2 (by omega)).trans rfl)

theorem same_any {w : World} {u v : Value} {L : List Ml} (hu : MlRow w u L) (hv : MlRow w v L) (hl : L.length ≤ 1000000) :
    Calls Try.prog 15 #[u, v] w fun e w' => e = .returned (.bool true) ∧ Below w.heap.size w w' := by
  obtain ⟨ao, cap, rfl, ha⟩ := hu
  obtain ⟨bo, cap2, rfl, hb⟩ := hv
  have HA := Lib.hid ha
  have HB := Lib.hid hb
  clear ha hb
  go_enter Try.func15, Try.ntmps15
  go_wp2_with fail
  go_loopw [5] (fun i wr => ∃ k : Nat, k ≤ L.length ∧ i = .int .i64 k ∧ Below w.heap.size w wr) (fun i _ => L.length - (intOf i).toNat)
  case atStart => exact ⟨0, by omega, rfl, Below.refl _ _⟩
  case round =>
    rename_i wr
    obtain ⟨k, hk, rfl, hb⟩ := hrel
    have HW := Lib.hid hb
    by_cases hlt : k < L.length
    · have d1 : decide ((k : Int) < (L.length : Int)) = true := by simp; omega
      have hne : L ≠ [] := fun h => by rw [h] at hlt; simp at hlt
      obtain ⟨g, off, rfl, hc⟩ := HA.out hne
      obtain ⟨g', off', rfl, hc'⟩ := HB.out hne
      obtain ⟨x0, x1, x2⟩ := hc k hlt
      obtain ⟨y0, y1, y2⟩ := hc' k hlt
      replace x0 := (hb.cell (block_lt_of_cell x0)).trans x0
      replace x1 := (hb.cell (block_lt_of_cell x1)).trans x1
      replace x2 := (hb.cell (block_lt_of_cell x2)).trans x2
      replace y0 := (hb.cell (block_lt_of_cell y0)).trans y0
      replace y1 := (hb.cell (block_lt_of_cell y1)).trans y1
      replace y2 := (hb.cell (block_lt_of_cell y2)).trans y2
      clear hc hc' hb
      generalize L.getD k ml0 = m at *
      go_wp2_with fail
      go_region
      go_wp2_with fail
      go_roundw
      case rel => exact ⟨k + 1, by omega, by go_num, HW.out.drew⟩
      case measure => simp [intOf]; omega
    · obtain rfl : k = L.length := by omega
      have d1 : decide ((L.length : Int) < (L.length : Int)) = false := by simp
      go_wp2_with fail
      go_ret
      exact ⟨rfl, HW.out⟩

end Go.Proofs.Ytggflkjdpibioaa
