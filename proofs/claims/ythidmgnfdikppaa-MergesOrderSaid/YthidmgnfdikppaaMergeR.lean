/- Plain mathematics of layer 11: what is left of rows, each from its place on; a row of numbers. No Go here. -/
import Derived.Test.YthidmgnfdikppaaMergeN
import Derived.Test.YthidmgnfdikppaaMergesR
namespace Go.Proofs.Ythidmgnfdikppaa
set_option linter.unusedVariables false
open Go Go.RowKit

theorem M.gD {α : Type} (L : List α) (k : Nat) (d : α) (h : k < L.length) : L.getD k d = L[k] := by
  rw [List.getD, List.getElem?_eq_getElem h]; rfl
/-- What is left of rows: each from its place on. -/
def M.lft (R : List (List M.Cl)) (P : List Nat) : List (List M.Cl) := List.zipWith (fun l p => l.drop p) R P
def M.bv : Option (Nat × M.Cl × List M.Cl) → Int
  | none => -1
  | some (b, _, _) => (b : Nat)
theorem M.lft_len {R : List (List M.Cl)} {P : List Nat} (h : P.length = R.length) : (M.lft R P).length = R.length := by
  simp [M.lft, h]
theorem M.lft_get {R : List (List M.Cl)} {P : List Nat} (h : P.length = R.length) (i : Nat) : (M.lft R P).getD i [] = (R.getD i []).drop (P.getD i 0) := by
  unfold M.lft
  simp only [List.getD, List.getElem?_zipWith]
  rcases Nat.lt_or_ge i R.length with q | q
  · rw [List.getElem?_eq_getElem q, List.getElem?_eq_getElem (by omega : i < P.length)]
    rfl
  · rw [List.getElem?_eq_none q]
    simp
theorem M.lft_some {R : List (List M.Cl)} {P : List Nat} (h : P.length = R.length) {b : Nat} {c : M.Cl} {t : List M.Cl} (hb : (M.lft R P)[b]? = some (c :: t)) :
    b < R.length ∧ P.getD b 0 < (R.getD b []).length ∧ (R.getD b []).getD (P.getD b 0) M.cl0 = c ∧ M.lft R (P.set b (P.getD b 0 + 1)) = (M.lft R P).set b t := by
  have hl : b < (M.lft R P).length := (List.getElem?_eq_some_iff.1 hb).1
  rw [M.lft_len h] at hl
  have e : (R.getD b []).drop (P.getD b 0) = c :: t := by
    rw [← M.lft_get h b]
    simp [List.getD, hb]
  have hp : P.getD b 0 < (R.getD b []).length := by
    rcases Nat.lt_or_ge (P.getD b 0) (R.getD b []).length with q | q
    · exact q
    · rw [List.drop_eq_nil_of_le q] at e; cases e
  have e2 := List.drop_eq_getElem_cons hp
  rw [e] at e2
  injection e2 with e3 e4
  refine ⟨hl, hp, ?_, ?_⟩
  · rw [e3, M.gD _ _ _ hp]
  · refine List.ext_getElem? fun i => ?_
    have hs : (P.set b (P.getD b 0 + 1)).length = R.length := by simpa using h
    rw [List.getElem?_set]
    by_cases hi : b = i
    · subst hi
      rw [if_pos rfl, if_pos (by rw [M.lft_len h]; exact hl)]
      have h1 := M.lft_get hs b
      rw [show (P.set b (P.getD b 0 + 1)).getD b 0 = P.getD b 0 + 1 from by simp [List.getD, show b < P.length from by omega]] at h1
      rw [← e4] at h1
      have h2 : b < (M.lft R (P.set b (P.getD b 0 + 1))).length := by rw [M.lft_len hs]; exact hl
      rw [List.getElem?_eq_getElem h2]
      rw [M.gD _ _ _ h2] at h1
      rw [h1]
    · rw [if_neg hi]
      simp [M.lft, List.getElem?_zipWith, hi]
/-- What the first i rows' best is. -/
theorem M.bestN_some {R : List (List M.Cl)} {i b : Nat} {c : M.Cl} {t : List M.Cl} (hi : i ≤ R.length) (h : M.bestN R i = some (b, c, t)) : b < i ∧ R[b]? = some (c :: t) := by
  have hs := M.bestN_spec R i hi
  rw [h] at hs
  have h1 : M.Best (R.take i) b c t := hs
  have h2 := h1.here
  have h3 : b < (R.take i).length := (List.getElem?_eq_some_iff.1 h2).1
  rw [List.length_take] at h3
  refine ⟨by omega, ?_⟩
  rw [List.getElem?_take, if_pos (by omega)] at h2
  exact h2
theorem M.mrg_best {R : List (List M.Cl)} : (M.bestN R R.length = none → M.mrg R = []) ∧ (∀ b c t, M.bestN R R.length = some (b, c, t) → M.mrg R = c :: M.mrg (R.set b t) ∧ ((R.set b t).map List.length).sum + 1 = (R.map List.length).sum) := by
  have hs := M.bestN_spec R R.length (Nat.le_refl _)
  rw [List.take_length] at hs
  refine ⟨fun h => ?_, fun b c t h => ?_⟩
  · rw [h] at hs
    exact ((M.Mrg.done hs).eq).symm
  · rw [h] at hs
    have h1 : M.Best R b c t := hs
    exact ⟨((M.Mrg.step h1 (M.mrg_is _)).eq).symm, M.sum_set R b c t h1.here⟩
theorem M.lft_zero (R : List (List M.Cl)) : M.lft R (List.replicate R.length 0) = R := by
  refine List.ext_getElem? fun i => ?_
  unfold M.lft
  rw [List.getElem?_zipWith]
  rcases Nat.lt_or_ge i R.length with q | q
  · rw [List.getElem?_eq_getElem q]
    simp [q]
  · rw [List.getElem?_eq_none q]
theorem M.lft_sum : ∀ (R : List (List M.Cl)) (P : List Nat), ((M.lft R P).map List.length).sum ≤ (R.map List.length).sum
  | [], P => by simp [M.lft]
  | l :: R, [] => by simp [M.lft]
  | l :: R, p :: P => by
    have := M.lft_sum R P
    simp only [M.lft, List.zipWith_cons_cons, List.map_cons, List.sum_cons, List.length_drop] at *
    omega
/-- A row of numbers. -/
def intsV (P : List Nat) : Array Value := (P.map (fun n => Value.int .i64 (n : Nat))).toArray
theorem intsV_size (P : List Nat) : (intsV P).size = P.length := by simp [intsV]
theorem intsV_get {P : List Nat} {j : Nat} (h : j < P.length) : (intsV P)[j]? = some (.int .i64 (P.getD j 0 : Nat)) := by
  simp [intsV, List.getD, h]
theorem intsV_set (P : List Nat) (j n : Nat) : (intsV P).setIfInBounds j (.int .i64 (n : Nat)) = intsV (P.set j n) := by
  unfold intsV
  rw [List.setIfInBounds_toArray, List.map_set]
theorem make_ints11 (w : World) (t : TypeId) (ht : Try.prog.underlying t = some (.slice 3)) (n : Nat) (hn : n ≤ 1000000) :
    (Instr.makeSlice t (.int .i64 (n : Int)) (.int .i64 (n : Int))).run Try.prog w = .ok (.slice (some ⟨w.heap.size, 0, none⟩) n n) (w.alloc (.cells (intsV (List.replicate n 0)) 3)) := by
  obtain ⟨i, hi, hz, h1, h2⟩ := info_parts (show (Try.prog.info? 3).map (fun i => (i.zero, i.size, i.bytes)) = some (some (.int .i64 0), 1, 8) from by kernel_rfl)
  have hr := run_make (P := Try.prog) w t 3 i _ ht hi hz .i64 .i64 n n (by omega) (by omega) (by rw [h2]; omega) (by omega)
  rw [h1, Nat.mul_one] at hr
  simp only [Int.toNat_natCast] at hr
  have e : madeCells (Value.int .i64 0).cells n = intsV (List.replicate n 0) := by
    refine Array.ext (by simp [size_madeCells, intsV]) fun j h1 h2 => ?_
    simp only [size_madeCells] at h1
    simp [madeCells, Value.cells, Nat.mod_one, intsV]
  rw [e] at hr
  exact hr

end Go.Proofs.Ythidmgnfdikppaa
