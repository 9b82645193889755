/- Layer 16: copies of tablets, by a contract: the shelf's Clone at this element's type. -/
import Derived.Test.YtfcmjgcjmldpcaaEditsG
import Derived.Shelf.SlicesE.Clone
namespace Go.Proofs.Ytfcmjgcjmldpcaa
set_option linter.unusedVariables false
set_option linter.unusedSimpArgs false
open Go Go.RowKit

def layTb_ren : Go.Shelf.Ren := ⟨fun | 41 => 47 | n => n, fun | 22 => 22 | 23 => 41 | 4 => 4 | n => n, fun | n => n⟩
theorem layTb : Go.Proofs.SlLaysE0.n41 Try.prog layTb_ren := {
  mixed := by kernel_rfl
  f41 := ⟨Try.f47.name, by decide, Try.func47.trans (congrArg some (by kernel_rfl))⟩
  t4 := Try.underlying4
  a4 := Try.isAgg4
  z4 := Try.sizeOf4
  v4 := Try.zeroValue4
  t22 := Try.underlying22
  a22 := Try.isAgg22
  z22 := Try.sizeOf22
  v22 := Try.zeroValue22 }
def tbL (r : Rt) : List Value := [.string (S r.f), .slice r.o r.l.length r.k]
def tbC (Rs : List Rt) : List Value := Rs.flatMap tbL
theorem tbC_length (Rs : List Rt) : (tbC Rs).length = Rs.length * 2 := by
  induction Rs with
  | nil => rfl
  | cons m t ih => simp only [tbC, List.flatMap_cons, List.length_append, List.length_cons] at *; rw [ih]; simp [tbL]; omega
theorem tbC_get (Rs : List Rt) (j i : Nat) (hj : j < Rs.length) (hi : i < 2) : (tbC Rs)[j * 2 + i]? = (tbL (Rs.getD j rt0))[i]? := by
  induction Rs generalizing j with
  | nil => simp at hj
  | cons m t ih =>
    rw [show tbC (m :: t) = tbL m ++ tbC t from by simp [tbC]]
    cases j with
    | zero => rw [List.getElem?_append_left (by simp [tbL]; omega)]; simp
    | succ j =>
      rw [List.getElem?_append_right (by simp [tbL]; omega), show (j + 1) * 2 + i - (tbL m).length = j * 2 + i from by simp [tbL]; omega, ih j (by simpa using hj)]
      simp
theorem tbC_oneC (Rs : List Rt) : ∀ u ∈ tbC Rs, u.oneCell' = true := by
  intro u hu
  obtain ⟨x, _, hx⟩ := List.mem_flatMap.1 hu
  simp [tbL] at hx
  rcases hx with rfl | rfl <;> simp [Value.oneCell']
theorem tbsAt_get {w : World} {g o : Nat} {Rs : List Rt} (h : ∀ j, j < Rs.length → TbAt w g (o + j * 2) (Rs.getD j rt0)) (j : Nat) (u : Value) (hu : (tbC Rs)[j]? = some u) : w.cell? ⟨g, o + j, none⟩ = some u := by
  have hj : j < Rs.length * 2 := by
    rw [← tbC_length]
    exact (List.getElem?_eq_some_iff.1 hu).1
  have e : j = j / 2 * 2 + j % 2 := by omega
  obtain ⟨h0, h1, _⟩ := h (j / 2) (by omega)
  rw [e, tbC_get Rs (j / 2) (j % 2) (by omega) (by omega)] at hu
  rcases Nat.mod_two_eq_zero_or_one j with q | q
  · rw [q] at hu
    simp [tbL] at hu
    rw [show o + j = o + j / 2 * 2 from by omega, h0]; exact congrArg some hu
  · rw [q] at hu
    simp [tbL] at hu
    rw [show o + j = o + j / 2 * 2 + 1 from by omega, h1]; exact congrArg some hu
/-- A row of tablets of one's own, whose numbers lie where they lie. -/
theorem tbsAt_own {w : World} {B : Nat} {e : TypeId} {ao : Option Addr} {cap : Nat} {Rs : List Rt} (h : w.ownsRow B e 2 (.slice ao Rs.length cap) Rs.length (tbC Rs)) (hn : ∀ r, r ∈ Rs → NsAt w r.o r.l) : TbsAt w ao Rs := fun hne => by
  obtain ⟨g, e1, _, hc⟩ := own_cell16 (List.length_pos_iff.2 hne) h
  refine ⟨g, 0, e1, fun j hj => ?_⟩
  have h0 := hc (j * 2 + 0) _ (by rw [tbC_get Rs j 0 hj (by omega)]; rfl)
  have h1 := hc (j * 2 + 1) _ (by rw [tbC_get Rs j 1 hj (by omega)]; rfl)
  exact ⟨by rw [Nat.zero_add]; exact h0, by rw [Nat.zero_add]; exact h1, hn _ (Ed.gD_mem hj)⟩
theorem infoTb : (Try.prog.info? 41).map (fun i => (i.zero.map (fun z => z.cells.size), i.size, i.bytes)) = some (some 2, 2, 40) := by kernel_rfl
theorem infoTb_parts : ∃ (i0 : TypeInfo) (z : Value), Try.prog.info? 41 = some i0 ∧ i0.zero = some z ∧ i0.size = 2 ∧ i0.bytes = 40 ∧ z.cells.size = 2 := by
  have h := infoTb
  cases hi : Try.prog.info? 41 with
  | none => rw [hi] at h; cases h
  | some i0 =>
    rw [hi] at h
    cases hz : i0.zero with
    | none => simp [hz] at h
    | some z =>
      simp [hz] at h
      exact ⟨i0, z, rfl, hz, h.2.1, h.2.2, h.1⟩
def CloneT (Rs : List Rt) (w : World) (e : Ending) (w' : World) : Prop := ∃ ao c, e = .returned (.slice ao Rs.length c) ∧ w'.ownsRow w.heap.size 41 2 (.slice ao Rs.length c) Rs.length (tbC Rs) ∧ Below w.heap.size w w'
theorem cloneT_any (Rs : List Rt) (hne : Rs ≠ []) (hl : Rs.length ≤ 100000) (ao : Option Addr) (cap : Nat) (w : World) (h : TbsAt w ao Rs) :
    Calls Try.prog 47 #[.slice ao Rs.length cap] w (CloneT Rs w) := by
  obtain ⟨g, off, rfl, hc⟩ := h hne
  obtain ⟨i0, z0, hi0, hz0, h01, h02, h03⟩ := infoTb_parts
  refine Calls.mono (AnyE.slices_Clone layTb i0 z0 2 40 hi0 hz0 h01 h02 h03 (by omega) Try.sizeOf41 g off Rs.length cap (tbC Rs) w (tbC_length Rs) (by unfold maxLen; omega) (by omega) (tbsAt_get hc) (tbC_oneC Rs)) ?_
  rintro e w' ⟨v', rfl, hown, _, hb⟩
  obtain ⟨ao', cap', rfl⟩ := own_shape16 hown
  exact ⟨ao', cap', rfl, hown, hb⟩

end Go.Proofs.Ytfcmjgcjmldpcaa
