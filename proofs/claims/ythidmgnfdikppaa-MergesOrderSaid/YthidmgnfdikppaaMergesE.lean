/- Layer 11: rows of heads that the call owns: two changed about, the last one taken off, one laid behind. -/
import Derived.Test.YthidmgnfdikppaaMergesD
import Derived.WalkSmall
namespace Go.Proofs.Ythidmgnfdikppaa
set_option linter.unusedVariables false
open Go Go.RowKit
attribute [local go_sem ↓] run_index_S
attribute [local go_sem] S_append S_extract

def hds (H : List M.Hd) : List Value := H.flatMap hdL
theorem hds_append (a b : List M.Hd) : hds (a ++ b) = hds a ++ hds b := by simp [hds]
theorem hds_one (c : M.Hd) : hds [c] = hdL c := by simp [hds]
theorem hds_cons (m : M.Hd) (t : List M.Hd) : hds (m :: t) = hdL m ++ hds t := by simp [hds]
theorem hds_length (L : List M.Hd) : (hds L).length = L.length * 5 := by
  induction L with
  | nil => rfl
  | cons m t ih => rw [hds_cons, List.length_append, List.length_cons, ih]; simp [hdL]; omega
theorem hds_get (L : List M.Hd) (j i : Nat) (hj : j < L.length) (hi : i < 5) : (hds L)[j * 5 + i]? = (hdL (M.hAt L j))[i]? := by
  induction L generalizing j with
  | nil => simp at hj
  | cons m t ih =>
    rw [hds_cons]
    cases j with
    | zero => rw [List.getElem?_append_left (by simp [hdL]; omega)]; simp [M.hAt]
    | succ j =>
      rw [List.getElem?_append_right (by simp [hdL]; omega), show (j + 1) * 5 + i - (hdL m).length = j * 5 + i from by simp [hdL]; omega, ih j (by simpa using hj)]
      simp [M.hAt]
theorem hdL_oneC (c : M.Hd) : ∀ u ∈ hdL c, u.oneCell' = true := by simp [hdL, Value.oneCell']
theorem hds_oneC (L : List M.Hd) : ∀ u ∈ hds L, u.oneCell' = true := by
  intro u hu
  obtain ⟨x, _, hx⟩ := List.mem_flatMap.1 hu
  exact hdL_oneC x u hx
theorem hds_set (H : List M.Hd) (i : Nat) (x : M.Hd) (hi : i < H.length) : (((((hds H).set (i * 5) (.string (S x.c.key))).set (i * 5 + 1) (.int .i64 x.c.seq)).set (i * 5 + 2) (.string (S x.c.val))).set (i * 5 + 3) (.slice x.o x.b.length x.k)).set (i * 5 + 4) (.int .i64 x.r) = hds (H.set i x) := by
  induction H generalizing i with
  | nil => simp at hi
  | cons m t ih =>
    cases i with
    | zero => simp [hds, hdL]
    | succ i =>
      have ih := ih i (by simpa using hi)
      rw [List.set_cons_succ, hds_cons, hds_cons, ← ih]
      have e : ∀ (k : Nat) (v : Value) (T : List Value), (hdL m ++ T).set ((i + 1) * 5 + k) v = hdL m ++ T.set (i * 5 + k) v := fun k v T => by
        rw [List.set_append, if_neg (by simp [hdL]; omega), show (i + 1) * 5 + k - (hdL m).length = i * 5 + k from by simp [hdL]; omega]
      have e0 := fun v T => e 0 v T
      simp only [Nat.add_zero] at e0
      rw [e0, e, e, e, e]
theorem hdOff_own {w : World} {B g n cap : Nat} {H : List M.Hd} (h : w.ownsRow B 127 5 (.slice (some ⟨g, 0, none⟩) n cap) n (hds H)) (hn : H.length = n) {j : Nat} (hj : j < n) : HdOff (M.hAt H j) w g (j * 5) := by
  have k := fun i (hi : i < 5) => (h.cellAt (j * 5 + i) (by omega)).trans (hds_get H j i (by omega) hi)
  exact ⟨k 0 (by omega), k 1 (by omega), k 2 (by omega), k 3 (by omega), k 4 (by omega)⟩
theorem roomH_own {w : World} {B g n cap : Nat} {xs : List Value} (h : w.ownsRow B 127 5 (.slice (some ⟨g, 0, none⟩) n cap) n xs) : RoomH (n * 5) w g := by
  rcases h.2 with ⟨h0, _⟩ | ⟨g', cap', cur, hv, hb, hg, hn, hc, hs, _⟩
  · cases h0
  · cases hv
    exact ⟨cur, hg, by rw [hs]; omega⟩
theorem store5_own {w : World} {B g n cap i : Nat} {H : List M.Hd} (h : w.ownsRow B 127 5 (.slice (some ⟨g, 0, none⟩) n cap) n (hds H)) (hn : H.length = n) (hi : i < n) (x : M.Hd) :
    (store5 w g (i * 5) x).ownsRow B 127 5 (.slice (some ⟨g, 0, none⟩) n cap) n (hds (H.set i x)) ∧ w.grownBy (store5 w g (i * 5) x) (some g) := by
  obtain ⟨a0, b0⟩ := h.stored (i * 5) (.string (S x.c.key))
  obtain ⟨a1, b1⟩ := a0.stored (i * 5 + 1) (.int .i64 x.c.seq)
  obtain ⟨a2, b2⟩ := a1.stored (i * 5 + 2) (.string (S x.c.val))
  obtain ⟨a3, b3⟩ := a2.stored (i * 5 + 3) (.slice x.o x.b.length x.k)
  obtain ⟨a4, b4⟩ := a3.stored (i * 5 + 4) (.int .i64 x.r)
  rw [hds_set H i x (by omega)] at a4
  exact ⟨a4, (((b0.trans b1).trans b2).trans b3).trans b4⟩
theorem M.hSw_self {H : List M.Hd} {i : Nat} (hi : i < H.length) : M.hSw H i i = H := by
  apply List.ext_getElem?
  intro j
  have e : M.hAt H i = H[i] := by simp [M.hAt, List.getD, hi]
  rw [M.hSw, e]
  simp
theorem grown_drew11 {w w' : World} {row : Option Nat} (h : w.grownBy w' row) : w.grownBy w'.drew row := ⟨h.os, h.tape, h.output, h.size, h.block⟩
/-- Swap, of a row that the call owns. -/
theorem swap11_own (w : World) (B g n cap i j : Nat) (H : List M.Hd) (hi : i < n) (hj : j < n) (hn : n ≤ 1000000) (hl : H.length = n) (h : w.ownsRow B 127 5 (.slice (some ⟨g, 0, none⟩) n cap) n (hds H)) :
    Calls Try.prog 180 #[.slice (some ⟨g, 0, none⟩) n cap, .int .i64 i, .int .i64 j] w fun e w' => e = .returned (.tuple #[]) ∧ w'.ownsRow B 127 5 (.slice (some ⟨g, 0, none⟩) n cap) n (hds (M.hSw H i j)) ∧ w.grownBy w' (some g) := by
  have hx := hdOff_own h hl hi
  have hy := hdOff_own h hl hj
  by_cases e : i = j
  · subst e
    refine (swap11_eq w g n cap i (M.hAt H i) hi hn (roomH_own h) hx).mono ?_
    rintro e w' ⟨rfl, rfl⟩
    obtain ⟨a, b⟩ := store5_own h hl hi (M.hAt H i)
    obtain ⟨a', b'⟩ := store5_own a (by simpa using hl) hi (M.hAt H i)
    exact ⟨rfl, by unfold M.hSw; exact a'.drew, grown_drew11 (b.trans b')⟩
  · refine (swap11_ne w g n cap i j (M.hAt H i) (M.hAt H j) hi hj e hn (roomH_own h) hx hy).mono ?_
    rintro e w' ⟨rfl, rfl⟩
    obtain ⟨a, b⟩ := store5_own h hl hi (M.hAt H j)
    obtain ⟨a', b'⟩ := store5_own a (by simpa using hl) hj (M.hAt H i)
    exact ⟨rfl, by unfold M.hSw; exact a'.drew, grown_drew11 (b.trans b')⟩

end Go.Proofs.Ythidmgnfdikppaa
