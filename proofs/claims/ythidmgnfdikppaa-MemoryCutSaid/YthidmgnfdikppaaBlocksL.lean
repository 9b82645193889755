/- Layer 9: BlocksOne, walked. -/
import Derived.Test.YthidmgnfdikppaaZI
import Derived.BigQuiet
namespace Go.Proofs.Ythidmgnfdikppaa
set_option linter.unusedVariables false
open Go Go.RowKit
attribute [local go_sem ↓] run_index_S
attribute [local go_sem] S_append S_extract

/-- Two cells changed about. -/
def M.sw (L : List M.Cl) (a b : Nat) : List M.Cl := (L.set a (L.getD b M.cl0)).set b (L.getD a M.cl0)
theorem M.sw_len (L : List M.Cl) (a b : Nat) : (M.sw L a b).length = L.length := by simp [M.sw]
theorem M.getD_setC {L : List M.Cl} {i j : Nat} {x : M.Cl} (hi : i < L.length) : (L.set i x).getD j M.cl0 = if i = j then x else L.getD j M.cl0 := by
  simp only [List.getD, List.getElem?_set]
  by_cases h : i = j
  · subst h; simp [hi]
  · simp [h]
theorem M.sw_get {L : List M.Cl} {a b : Nat} (ha : a < L.length) (hb : b < L.length) (j : Nat) : (M.sw L a b).getD j M.cl0 = if b = j then L.getD a M.cl0 else if a = j then L.getD b M.cl0 else L.getD j M.cl0 := by
  rw [M.sw, M.getD_setC (by simpa using hb), M.getD_setC ha]
theorem M.sw_same {L : List M.Cl} {a : Nat} (ha : a < L.length) : M.sw L a a = L := by
  rw [M.sw, List.set_set]
  apply List.ext_getElem?
  intro i
  rw [List.getElem?_set]
  by_cases h : a = i
  · subst h; simp [List.getD, ha]
  · simp [h]
theorem M.sw_not {L : List M.Cl} (h : M.srt none L = true) {a b : Nat} (ha : a < L.length) (hb : b < L.length) (hab : a ≠ b) : M.srt none (M.sw L a b) = false := by
  cases k : M.srt none (M.sw L a b) with
  | false => rfl
  | true =>
    have key : ∀ x y, x < y → y < L.length → M.aheadC (L.getD y M.cl0) (L.getD x M.cl0) = true → False := fun x y h1 h2 h3 => by
      have := M.ahead_asymm (M.srt_pair h x y h1 h2)
      rw [this] at h3; cases h3
    rcases Nat.lt_or_gt_of_ne hab with q | q
    · have p := M.srt_pair k a b q (by rw [M.sw_len]; exact hb)
      rw [M.sw_get ha hb, M.sw_get ha hb, if_neg (Ne.symm hab), if_pos rfl, if_pos rfl] at p
      exact (key a b q hb p).elim
    · have p := M.srt_pair k b a q (by rw [M.sw_len]; exact ha)
      rw [M.sw_get ha hb, M.sw_get ha hb, if_pos rfl, if_neg (Ne.symm hab), if_pos rfl] at p
      exact (key b a q ha p).elim
theorem M.srt_next {L : List M.Cl} (h : M.srt none L = true) {k : Nat} (hk : 0 < k) (hl : k < L.length) :
    Op.bytesLess (L.getD k M.cl0).key (L.getD (k - 1) M.cl0).key = false ∧ ((L.getD (k - 1) M.cl0).key = (L.getD k M.cl0).key → (L.getD k M.cl0).seq < (L.getD (k - 1) M.cl0).seq) ∧ (¬ (L.getD (k - 1) M.cl0).key = (L.getD k M.cl0).key → Op.bytesLess (L.getD (k - 1) M.cl0).key (L.getD k M.cl0).key = true) := by
  have p := M.srt_pair h (k - 1) k (by omega) hl
  rcases M.ahead_iff.1 p with q | ⟨q1, q2⟩
  · refine ⟨?_, fun e => (by rw [e, M.less_irr] at q; cases q), fun _ => q⟩
    cases r : Op.bytesLess (L.getD k M.cl0).key (L.getD (k - 1) M.cl0).key with
    | false => rfl
    | true => have := M.less_trans _ _ _ q r; rw [M.less_irr] at this; cases this
  · exact ⟨by rw [q1, M.less_irr], fun _ => q2, fun h => absurd q1 h⟩

/-- A cell stored whole. -/
def store3 (w : World) (g o : Nat) (c : M.Cl) : World := ((w.setCell ⟨g, o, none⟩ (.string (S c.key))).setCell ⟨g, o + 1, none⟩ (.int .i64 c.seq)).setCell ⟨g, o + 2, none⟩ (.string (S c.val))
theorem RoomC.read {N : Nat} {w : World} {g : Nat} (h : RoomC N w g) {o : Nat} (ho : o < N) (v : Value) (p : Nat) : (w.setCell ⟨g, o, none⟩ v).cell? ⟨g, p, none⟩ = if o = p then some v else w.cell? ⟨g, p, none⟩ := by
  obtain ⟨C, h1, h2⟩ := h
  rw [(h1.set o v).cell p, h1.cell p, Array.getElem?_setIfInBounds]
  by_cases e : o = p
  · subst e; simp; omega
  · simp [e]
theorem store3_at {N : Nat} {w : World} {g o : Nat} (h : RoomC N w g) (ho : o + 2 < N) (c : M.Cl) : ClOff c (store3 w g o c) g o := by
  have h1 := h.set o (.string (S c.key))
  have h2 := h1.set (o + 1) (.int .i64 c.seq)
  refine ⟨?_, ?_, ?_⟩
  · rw [store3, h2.read (by omega), if_neg (by omega), h1.read (by omega), if_neg (by omega), h.read (by omega), if_pos rfl]
  · rw [store3, h2.read (by omega), if_neg (by omega), h1.read (by omega), if_pos rfl]
  · rw [store3, h2.read (by omega), if_pos rfl]
theorem store3_cell {N : Nat} {w : World} {g o : Nat} (h : RoomC N w g) (ho : o + 2 < N) (c : M.Cl) {p : Nat} (hp : p < o ∨ o + 2 < p) : (store3 w g o c).cell? ⟨g, p, none⟩ = w.cell? ⟨g, p, none⟩ := by
  have h1 := h.set o (.string (S c.key))
  have h2 := h1.set (o + 1) (.int .i64 c.seq)
  rw [store3, h2.read (by omega), if_neg (by omega), h1.read (by omega), if_neg (by omega), h.read (by omega), if_neg (by omega)]
theorem store3_room {N : Nat} {w : World} {g o : Nat} (h : RoomC N w g) (c : M.Cl) : RoomC N (store3 w g o c) g := ((h.set _ _).set _ _).set _ _
theorem store3_off {N : Nat} {w : World} {g o : Nat} (h : RoomC N w g) (ho : o + 2 < N) (c : M.Cl) {x : M.Cl} {p : Nat} (hx : ClOff x w g p) (hp : p + 2 < o ∨ o + 2 < p) : ClOff x (store3 w g o c) g p := by
  obtain ⟨x0, x1, x2⟩ := hx
  exact ⟨(store3_cell h ho c (by omega)).trans x0, (store3_cell h ho c (by omega)).trans x1, (store3_cell h ho c (by omega)).trans x2⟩
theorem RoomC.drew9 {N : Nat} {w : World} {g : Nat} (h : RoomC N w g) : RoomC N w.drew g := by
  obtain ⟨C, h1, h2⟩ := h
  exact ⟨C, show RowIn C 38 w.drew g from h1, h2⟩
theorem clsAt_at0 {w : World} {g : Nat} {L : List M.Cl} (h : ClsAt w (some ⟨g, 0, none⟩) L) (j : Nat) (hj : j < L.length) : ClOff (L.getD j M.cl0) w g (j * 3) := by
  obtain ⟨g', o', q, hc⟩ := h.off j hj
  cases q
  rwa [Nat.zero_add] at hc
theorem clsAt_sw {w : World} {g : Nat} {L : List M.Cl} {N : Nat} (hr : RoomC N w g) (hN : L.length * 3 ≤ N) (h : ClsAt w (some ⟨g, 0, none⟩) L) {a b : Nat} (ha : a < L.length) (hb : b < L.length) :
    ClsAt (store3 (store3 w g (a * 3) (L.getD b M.cl0)) g (b * 3) (L.getD a M.cl0)) (some ⟨g, 0, none⟩) (M.sw L a b) := fun _ => by
  have r1 := store3_room (o := a * 3) hr (L.getD b M.cl0)
  refine ⟨g, 0, rfl, fun j hj => ?_⟩
  rw [M.sw_len] at hj
  rw [M.sw_get ha hb, Nat.zero_add]
  by_cases e : b = j
  · subst e; rw [if_pos rfl]; exact store3_at r1 (by omega) _
  · rw [if_neg e]
    by_cases e2 : a = j
    · subst e2; rw [if_pos rfl]; exact store3_off r1 (by omega) _ (store3_at hr (by omega) _) (by omega)
    · rw [if_neg e2]
      have hc := clsAt_at0 h j hj
      exact store3_off r1 (by omega) _ (store3_off hr (by omega) _ hc (by omega)) (by omega)

theorem clsAt_drewO {w : World} {ao : Option Addr} {L : List M.Cl} (h : ClsAt w ao L) : ClsAt w.drew ao L := h.same rfl
theorem u8_wf9 {n : Int} (h : (Lit.int .u8 n).wf = true) : 0 ≤ n ∧ n ≤ 255 := by
  simp [Lit.wf, IntKind.min, IntKind.max, IntKind.signed, IntKind.bits] at h
  omega

end Go.Proofs.Ythidmgnfdikppaa
