/- Layer 7: slices of messages. -/
import Derived.Test.YtggflkjdpibioaaNetsG
import Derived.Deep.RegionHeld3
namespace Go.Proofs.Ytggflkjdpibioaa
set_option linter.unusedVariables false
open Go Go.RowKit

theorem own_parts {w : World} {B : Nat} {T : TypeId} {v : Value} {L : List Ml} (h : w.ownsRow B T 3 v L.length (mls L)) :
    ∃ ao cap, v = .slice ao L.length cap ∧ L.length ≤ cap ∧ MlRow w (.slice ao L.length cap) L ∧ (∀ a, ao = some a → B ≤ a.block) ∧ (ao = none ∧ cap = 0 ∨ ∃ g, ao = some ⟨g, 0, none⟩) := by
  have hr := mlRow_of h
  rcases h.2 with ⟨rfl, h0⟩ | ⟨g, cap, cur, rfl, hB, hg, hc, _⟩
  · have : L = [] := List.eq_nil_of_length_eq_zero h0
    subst this
    exact ⟨none, 0, rfl, by simp, hr, (fun a h => by cases h), .inl ⟨rfl, rfl⟩⟩
  · exact ⟨_, cap, rfl, hc, hr, (fun a h => by cases h; exact hB), .inr ⟨g, rfl⟩⟩
theorem netAll_row {w : World} {b : Nat} {L : List Ml} (h : NetIn w b L) :
    Calls Try.prog 14 #[.pointer (some ⟨b, 0, none⟩)] w fun e w' => ∃ ao cap, e = .returned (.slice ao L.length cap) ∧ L.length ≤ cap ∧ MlRow w' (.slice ao L.length cap) L ∧ (∀ a, ao = some a → w.heap.size ≤ a.block) ∧ (ao = none ∧ cap = 0 ∨ ∃ g, ao = some ⟨g, 0, none⟩) ∧ Below w.heap.size w w' :=
  (netAll_any h).mono fun e w' ⟨v, he, hr, hb⟩ => by
    obtain ⟨ao, cap, rfl, hc, hm, hB, hs⟩ := own_parts hr
    exact ⟨ao, cap, he, hc, hm, hB, hs, hb⟩
theorem MlRow.drew {w : World} {v : Value} {L : List Ml} (h : MlRow w v L) : MlRow w.drew v L := h
theorem MlRow.addr {w : World} {ao : Option Addr} {n cap : Nat} {L : List Ml} (h : MlRow w (.slice ao n cap) L) (hne : L ≠ []) : ∃ g o, ao = some ⟨g, o, none⟩ := by
  obtain ⟨ao', cap', e, h⟩ := h
  injection e with e1 e2 e3
  obtain ⟨g, o, e, _⟩ := h hne
  exact ⟨g, o, e1.trans e⟩

theorem MlRow.cells7 {W : World} {g o n cap : Nat} {L : List Ml} (h : MlRow W (.slice (some ⟨g, o, none⟩) n cap) L) (j : Nat) (hj : j < L.length) :
    W.cell? ⟨g, o + j * 3, none⟩ = some (.int .i64 (L.getD j ml0).src) ∧ W.cell? ⟨g, o + j * 3 + 1, none⟩ = some (.int .i64 (L.getD j ml0).dst) ∧ W.cell? ⟨g, o + j * 3 + 2, none⟩ = some (.string (S (L.getD j ml0).dat)) := by
  obtain ⟨ao', cap', e, h⟩ := h
  injection e with e1 e2 e3
  obtain ⟨g', o', e, hc⟩ := h (fun h => by rw [h] at hj; simp at hj)
  rw [e] at e1
  injection e1 with e1
  injection e1 with e4 e5
  subst e4 e5
  exact hc j hj
theorem MlRow.only7 {w w' : World} {b : Nat} {ao : Option Addr} {n cap : Nat} {L : List Ml} (h : MlRow w (.slice ao n cap) L) (hb : Only b w w') (hn : ∀ a, ao = some a → a.block ≠ b) : MlRow w' (.slice ao n cap) L := by
  obtain ⟨ao', cap', e, h⟩ := h
  cases e
  refine ⟨ao, cap, rfl, fun hne => ?_⟩
  obtain ⟨g, off, rfl, hc⟩ := h hne
  have hg := hn _ rfl
  have k := fun {j v} (h : w.cell? ⟨g, j, none⟩ = some v) => hb.cell (p := ⟨g, j, none⟩) hg h
  exact ⟨g, off, rfl, fun j hj => ⟨k (hc j hj).1, k (hc j hj).2.1, k (hc j hj).2.2⟩⟩
theorem row_pre {W : World} {a : Addr} {L : List Ml} {N cap : Nat} (h : MlRow W (.slice (some a) N cap) L) (k : Nat) (hk : k ≤ L.length) (c : Nat) : MlRow W (.slice (some a) k c) (L.take k) := by
  obtain ⟨ao', cap', e, h⟩ := h
  cases e
  refine ⟨some a, c, by rw [List.length_take, Nat.min_eq_left hk], fun hne => ?_⟩
  obtain ⟨g, off, e, hc⟩ := h (fun hL => hne (by rw [hL]; simp))
  refine ⟨g, off, e, fun j hj => ?_⟩
  have hjk : j < k := by simp at hj; omega
  have hjL : j < L.length := by omega
  have := hc j hjL
  rw [show (L.take k).getD j ml0 = L.getD j ml0 from by simp [List.getD, hjk]]
  exact this
theorem mlrow_nil (W : World) (ao : Option Addr) (c : Nat) : MlRow W (.slice ao 0 c) [] := ⟨ao, c, rfl, fun h => absurd rfl h⟩
theorem mlrow_nilx {W : World} {L : List Ml} (hL : L = []) (ao : Option Addr) (M c : Nat) (hM : M = 0) : MlRow W (.slice ao M c) L := by
  subst hL hM
  exact mlrow_nil W ao c
theorem row_suf {W : World} {g o : Nat} {L : List Ml} {N cap : Nat} (h : MlRow W (.slice (some ⟨g, o, none⟩) N cap) L) (k M : Nat) (hM : M = L.length - k) (c : Nat) : MlRow W (.slice (some ⟨g, o + k * 3, none⟩) M c) (L.drop k) := by
  obtain ⟨ao', cap', e, h⟩ := h
  cases e
  refine ⟨_, c, by rw [List.length_drop, hM], fun hne => ?_⟩
  obtain ⟨g', off, e, hc⟩ := h (fun hL => hne (by rw [hL]; simp))
  cases e
  refine ⟨_, _, rfl, fun j hj => ?_⟩
  have hjL : k + j < L.length := by simp at hj; omega
  have := hc (k + j) hjL
  rw [show (L.drop k).getD j ml0 = L.getD (k + j) ml0 from by simp [List.getD]]
  rw [show o + k * 3 + j * 3 = o + (k + j) * 3 from by omega]
  exact this

end Go.Proofs.Ytggflkjdpibioaa
