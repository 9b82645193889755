/- Layer 12: rows of spans that the call itself makes; what the batch of bytes comes to. -/
import Derived.Test.YtblgfhljaafmhaaPostsI
import Derived.Laws.AppendOwn
namespace Go.Proofs.Ytblgfhljaafmhaa
set_option linter.unusedVariables false
open Go Go.RowKit

/-- A span's cells; those of many, one behind the other. -/
def spL (x : M.Sp) : List Value := [.int .i64 x.trace, .int .i64 x.id, .int .i64 x.parent, .string (S x.svc), .string (S x.host), .int .i64 x.start, .int .i64 x.dur, .string (S x.note)]
def sps (L : List M.Sp) : List Value := L.flatMap spL
theorem sps_append (a b : List M.Sp) : sps (a ++ b) = sps a ++ sps b := by simp [sps]
theorem sps_one (x : M.Sp) : sps [x] = spL x := by simp [sps]
theorem sps_length (L : List M.Sp) : (sps L).length = L.length * 8 := by
  induction L with
  | nil => rfl
  | cons m t ih => simp only [sps, List.flatMap_cons, List.length_append, List.length_cons] at *; rw [ih]; simp [spL]; omega
theorem sps_get (L : List M.Sp) (j i : Nat) (hj : j < L.length) (hi : i < 8) : (sps L)[j * 8 + i]? = (spL (L.getD j M.sp0))[i]? := by
  induction L generalizing j with
  | nil => simp at hj
  | cons m t ih =>
    rw [show sps (m :: t) = spL m ++ sps t from by simp [sps]]
    cases j with
    | zero => rw [List.getElem?_append_left (by simp [spL]; omega)]; simp
    | succ j =>
      rw [List.getElem?_append_right (by simp [spL]; omega), show (j + 1) * 8 + i - (spL m).length = j * 8 + i from by simp [spL]; omega, ih j (by simpa using hj)]
      simp
theorem infoSp : (Try.prog.info? 29).map (fun i => (i.zero.map (fun z => z.cells.size), i.size, i.bytes)) = some (some 8, 8, 88) := by kernel_rfl
theorem infoSp_parts : ∃ (i0 : TypeInfo) (z : Value), Try.prog.info? 29 = some i0 ∧ i0.zero = some z ∧ i0.size = 8 ∧ i0.bytes = 88 ∧ z.cells.size = 8 := by
  have h := infoSp
  cases hi : Try.prog.info? 29 with
  | none => rw [hi] at h; cases h
  | some i0 =>
    rw [hi] at h
    cases hz : i0.zero with
    | none => simp [hz] at h
    | some z =>
      simp [hz] at h
      exact ⟨i0, z, rfl, hz, h.2.1, h.2.2, h.1⟩
section
variable {B sz : Nat} {e : TypeId} {v : Value} {n : Nat} {xs : List Value} {w w' : World}
theorem ownP_below (h : w.ownsRow B e sz v n xs) (hb : Below w.heap.size w w') : w'.ownsRow B e sz v n xs := by
  refine ⟨h.1, ?_⟩
  rcases h.2 with hc | ⟨g, cap, cur, rfl, hBg, hgg, rest⟩
  · exact .inl hc
  · exact .inr ⟨g, cap, cur, rfl, hBg, by rw [hb.block g (Array.getElem?_eq_some_iff.1 hgg).1]; exact hgg, rest⟩
theorem ownP_set (h : w.ownsRow B e sz v n xs) {r : Nat} (hr : r < B) (i : Nat) (u : Value) : (w.setCell ⟨r, i, none⟩ u).ownsRow B e sz v n xs := by
  refine ⟨h.1, ?_⟩
  rcases h.2 with hc | ⟨g, cap, cur, rfl, hBg, hgg, rest⟩
  · exact .inl hc
  · exact .inr ⟨g, cap, cur, rfl, hBg, by rw [Below.heap_setCell _ _ _ _ (show g ≠ r from by omega)]; exact hgg, rest⟩
theorem ownP_row (h : w.ownsRow B e sz v n xs) {r : Nat} (hr : r < B) (C : Array Value) : (w.setRow r C).ownsRow B e sz v n xs := by
  refine ⟨h.1, ?_⟩
  rcases h.2 with hc | ⟨g, cap, cur, rfl, hBg, hgg, rest⟩
  · exact .inl hc
  · exact .inr ⟨g, cap, cur, rfl, hBg, by rw [setRow_other w r g C (show g ≠ r from by omega)]; exact hgg, rest⟩
theorem ownP_mono {B' : Nat} (h : w.ownsRow B e sz v n xs) (hB : B' ≤ B) : w.ownsRow B' e sz v n xs := by
  refine ⟨h.1, ?_⟩
  rcases h.2 with hc | ⟨g, cap, cur, rfl, hBg, hgg, rest⟩
  · exact .inl hc
  · exact .inr ⟨g, cap, cur, rfl, by omega, hgg, rest⟩
theorem ownP_shape (h : w.ownsRow B e sz v n xs) : ∃ ao c, v = .slice ao n c := by
  rcases h.2 with ⟨rfl, rfl⟩ | ⟨g, cap, cur, rfl, _⟩
  · exact ⟨_, _, rfl⟩
  · exact ⟨_, _, rfl⟩
end
theorem RowIn.grownP {C : Array Value} {T : TypeId} {w w' : World} {b : Nat} {row : Option Nat} (h : RowIn C T w b) (hg : w.grownBy w' row) (hne : ∀ q, row = some q → q ≠ b) : RowIn C T w' b := by
  have hl := h.lt
  unfold RowIn at *
  rw [hg.block b hl (fun e => hne b e.symm rfl)]; exact h
theorem spsAt_own {B : Nat} {w : World} {ao : Option Addr} {cap n : Nat} {L : List M.Sp} {T : TypeId} (h : w.ownsRow B T 8 (.slice ao n cap) n (sps L)) (hn : n = L.length) : SpsAt w ao L := by
  subst hn
  intro hne
  rcases h.2 with ⟨_, h0⟩ | ⟨g, cap', cur, e, _, hg, _⟩
  · exact absurd (List.eq_nil_of_length_eq_zero h0) hne
  · injection e with e1 e2 e3
    subst e1
    refine ⟨g, 0, rfl, fun j hj => ?_⟩
    have hc := fun i u (hu : (sps L)[i]? = some u) => h.cells (g := g) rfl i u hu
    have ha : ∀ n : Nat, (⟨g, 0, none⟩ : Addr).add n = ⟨g, n, none⟩ := fun n => by unfold Addr.add; split <;> simp_all
    have k := fun i (hi : i < 8) => sps_get L j i hj hi
    simp only [ha] at hc
    rw [Nat.zero_add]
    exact ⟨hc _ _ ((k 0 (by omega)).trans rfl), hc _ _ ((k 1 (by omega)).trans rfl), hc _ _ ((k 2 (by omega)).trans rfl), hc _ _ ((k 3 (by omega)).trans rfl), hc _ _ ((k 4 (by omega)).trans rfl), hc _ _ ((k 5 (by omega)).trans rfl), hc _ _ ((k 6 (by omega)).trans rfl), hc _ _ ((k 7 (by omega)).trans rfl)⟩
theorem sp_new (w : World) (x : M.Sp) (T : TypeId) : ∀ j u, (spL x)[j]? = some u → (w.alloc (.cells #[.int .i64 x.trace, .int .i64 x.id, .int .i64 x.parent, .string (S x.svc), .string (S x.host), .int .i64 x.start, .int .i64 x.dur, .string (S x.note)] T)).cell? ((⟨w.heap.size, 0, none⟩ : Addr).add j) = some u := by
  intro j u h
  have hadd : (⟨w.heap.size, 0, none⟩ : Addr).add j = ⟨w.heap.size, j, none⟩ := by unfold Addr.add; split <;> simp_all
  rw [hadd, (rowIn_new _ T w).cell j]
  simpa [spL] using h
theorem spL_one (x : M.Sp) : ∀ u ∈ spL x, u.oneCell' = true := by simp [spL, Value.oneCell']

/-- A batch's cells. -/
def btC (h f : Int) (v : Value) : Array Value := #[.int .i64 h, .int .i64 f, v]
def bz : Array Value := btC 0 0 (.slice none 0 0)
theorem btC_one (h f : Int) (ao : Option Addr) (n cap : Nat) : (btC h f (.slice ao n cap)).all (·.oneCell') = true := by simp [btC, Value.oneCell']
theorem bz_one : bz.all (·.oneCell') = true := btC_one 0 0 none 0 0
/-- What the batch of bytes comes to. -/
def DecB (r : Option M.Bt) (w : World) (e : Ending) (w' : World) : Prop := match r with
  | some b => ∃ ao cap, e = .returned (.tuple #[.agg #[.int .i64 b.host, .int .i64 b.first, .slice ao b.sps.length cap], .int .i64 0]) ∧ w'.ownsRow w.heap.size 29 8 (.slice ao b.sps.length cap) b.sps.length (sps b.sps) ∧ Below w.heap.size w w'
  | none => e = .returned (.tuple #[.agg #[.int .i64 0, .int .i64 0, .slice none 0 0], .int .i64 30]) ∧ Below w.heap.size w w'
theorem DecB.no {r : Option M.Bt} {w w' : World} (h : r = none) (hb : Below w.heap.size w w') : DecB r w (.returned (.tuple #[.agg bz, .int .i64 30])) w' := by
  subst h; exact ⟨rfl, hb⟩
theorem DecB.yes {r : Option M.Bt} {w w' : World} {h f : Int} {L : List M.Sp} {ao : Option Addr} {n cap : Nat} (hr : r = some ⟨h, f, L⟩) (hn : n = L.length) (ho : w'.ownsRow w.heap.size 29 8 (.slice ao n cap) n (sps L)) (hb : Below w.heap.size w w') :
    DecB r w (.returned (.tuple #[.agg (btC h f (.slice ao n cap)), .int .i64 0])) w' := by
  subst hr hn; exact ⟨ao, cap, rfl, ho, hb⟩
theorem M.decB_none {l : List UInt8} (h : ¬ (decide (M.hd l = 66) = true ∧ M.takeN 3 l 1 ≠ none)) : M.decB l = none := by
  unfold M.decB
  by_cases h0 : M.hd l = 66
  · rw [if_pos h0]
    cases ht : M.takeN 3 l 1 with
    | none => rfl
    | some r => exact absurd ⟨by simpa using h0, by rw [ht]; simp⟩ h
  · rw [if_neg h0]
theorem M.decB_eight {l : List UInt8} {ns : List Nat} {a : Nat} (h : M.hd l = 66) (ht : M.takeN 3 l 1 = some (ns, a)) (h8 : 8 < ns.getD 2 0) : M.decB l = none := by
  unfold M.decB
  rw [if_pos h]
  simp only [ht]
  rw [if_pos h8]
theorem M.decB_eq {l : List UInt8} {ns : List Nat} {a : Nat} (h : M.hd l = 66) (ht : M.takeN 3 l 1 = some (ns, a)) (h8 : ¬ 8 < ns.getD 2 0) : M.decB l = match M.takeS (ns.getD 2 0) l a with
    | none => none
    | some (xs, c) => if c = l.length ∧ M.bMay ⟨(ns.getD 0 0 : Nat), (ns.getD 1 0 : Nat), xs⟩ = true then some ⟨(ns.getD 0 0 : Nat), (ns.getD 1 0 : Nat), xs⟩ else none := by
  unfold M.decB
  rw [if_pos h]
  simp only [ht]
  rw [if_neg h8]
  cases M.takeS (ns.getD 2 0) l a with
  | none => rfl
  | some q => rfl
theorem M.getTs_len {l : List UInt8} {at_ : Int} {t : List UInt8} {c : Nat} (h : M.getTs l at_ = some (t, c)) : t.length ≤ l.length ∧ c ≤ l.length := by
  unfold M.getTs at h
  split at h
  · split at h
    · simp only [Option.some.injEq, Prod.mk.injEq] at h
      obtain ⟨rfl, rfl⟩ := h
      refine ⟨by simp; omega, by assumption⟩
    · cases h
  · cases h
theorem M.takeS_len {k : Nat} {l : List UInt8} {a : Nat} {xs : List M.Sp} {b : Nat} (h : M.takeS k l a = some (xs, b)) : xs.length = k := (M.takeS_takeT h).2.1

end Go.Proofs.Ytblgfhljaafmhaa
