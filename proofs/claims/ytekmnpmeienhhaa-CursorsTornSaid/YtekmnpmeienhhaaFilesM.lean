/- Plain mathematics of package files: files that are cleared, a file that is laid by a draft. -/
import Derived.Test.YtekmnpmeienhhaaDiskM
namespace Go.Proofs.Ytekmnpmeienhhaa
set_option linter.unusedVariables false
open Go Go.RowKit

namespace Dk
/-- One behind the other, up to the first error. -/
def next_ (a : Int × St) (f : St → Int × St) : Int × St := if a.1 = 0 then f a.2 else a
def clrs (p : List UInt8 → Bool) : List (List UInt8) → St → Int × St
  | [], D => (0, D)
  | nm :: r, D => if p nm then next_ (remove nm D) (clrs p r) else clrs p r D
def clear (dr : List UInt8) (D : St) : Int × St := if has dr D.L then remove dr D else (0, D)
theorem next_ok {a : Int × St} {f : St → Int × St} (h : a.1 = 0) : next_ a f = f a.2 := if_pos h
theorem next_no {a : Int × St} {f : St → Int × St} (h : a.1 ≠ 0) : next_ a f = a := if_neg h
theorem next_zero (D : St) (f : St → Int × St) : next_ (0, D) f = f D := rfl
def run : List (St → Int × St) → St → Int × St
  | [], D => (0, D)
  | f :: r, D => next_ (f D) (run r)
theorem run_snoc : ∀ (l : List (St → Int × St)) (f : St → Int × St) (D : St), run (l ++ [f]) D = next_ (run l D) f
  | [], f, D => by
    show next_ (f D) (run []) = f D
    by_cases h : (f D).1 = 0
    · rw [next_ok h]; exact Prod.ext h.symm rfl
    · rw [next_no h]
  | g :: r, f, D => by
    show next_ (g D) (run (r ++ [f])) = next_ (next_ (g D) (run r)) f
    by_cases h : (g D).1 = 0
    · rw [next_ok h, next_ok h, run_snoc r f]
    · rw [next_no h, next_no h, next_no h]
theorem run_fail : ∀ (l m : List (St → Int × St)) (D : St), (run l D).1 ≠ 0 → run (l ++ m) D = run l D
  | [], m, D, h => absurd rfl h
  | g :: r, m, D, h => by
    show next_ (g D) (run (r ++ m)) = next_ (g D) (run r)
    by_cases hg : (g D).1 = 0
    · have h' : (run r (g D).2).1 ≠ 0 := by
        have : run (g :: r) D = run r (g D).2 := next_ok hg
        rw [this] at h; exact h
      rw [next_ok hg, next_ok hg, run_fail r m _ h']
    · rw [next_no hg, next_no hg]
def lay (dr nm s : List UInt8) (D : St) : Int × St := run [append dr s, sync dr, rename dr nm] D
def renew (dr nm s : List UInt8) (D : St) : Int × St := next_ (clear dr D) (lay dr nm s)
theorem clrs_none (dr : List UInt8) : ∀ (l : List (List UInt8)) (D : St), dr ∉ l → clrs (fun n => n == dr) l D = (0, D)
  | [], D, _ => rfl
  | nm :: r, D, h => by
    simp only [List.mem_cons, not_or] at h
    unfold clrs
    rw [if_neg (by simpa using fun e => h.1 e.symm)]
    exact clrs_none dr r D h.2
theorem clrs_one (dr : List UInt8) : ∀ (l : List (List UInt8)) (D : St), l.Nodup → dr ∈ l → clrs (fun n => n == dr) l D = remove dr D
  | [], D, _, h => by cases h
  | nm :: r, D, hn, h => by
    obtain ⟨h1, h2⟩ := List.nodup_cons.1 hn
    unfold clrs
    by_cases e : nm = dr
    · subst e
      rw [if_pos (by simp)]
      by_cases hr : (remove nm D).1 = 0
      · rw [next_ok hr, clrs_none nm r _ h1]
        exact Prod.ext hr.symm rfl
      · exact next_no hr
    · rw [if_neg (by simpa using e)]
      rcases List.mem_cons.1 h with h | h
      · exact absurd h.symm e
      · exact clrs_one dr r D h2 h
theorem has_names {nm : List UInt8} {L : List Fl} : has nm L = true ↔ nm ∈ names L := by
  rw [has_iff]
  unfold names
  rw [List.mem_map]
theorem names_nodup {L : List Fl} (h : OkL L) : (names L).Nodup := by
  unfold names
  exact List.nodup_iff_pairwise_ne.2 (List.pairwise_map.2 h.ne)
theorem clrs_clear {D : St} (h : OkL D.L) (dr : List UInt8) : clrs (fun n => n == dr) (names D.L) D = clear dr D := by
  unfold clear
  cases hh : has dr D.L with
  | true => rw [if_pos rfl]; exact clrs_one dr _ D (names_nodup h) (has_names.1 hh)
  | false =>
    rw [if_neg (by simp)]
    exact clrs_none dr _ D (fun q => by rw [has_names.2 q] at hh; cases hh)
theorem read_empty {D : St} (h : OkL D.L) : read [] D = (if D.up then 4 else 51, []) := by
  have hn : has [] D.L = false := by
    cases hh : has [] D.L with
    | false => rfl
    | true =>
      obtain ⟨f, hf, e⟩ := has_iff.1 hh
      have := h.named f hf
      rw [e] at this
      cases this
  unfold read
  cases D.up <;> simp [hn]
end Dk

end Go.Proofs.Ytekmnpmeienhhaa
