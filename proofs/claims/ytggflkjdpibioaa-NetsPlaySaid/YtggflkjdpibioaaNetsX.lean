/- Layer 7: counting messages. -/
import Derived.Test.YtggflkjdpibioaaNetsG
namespace Go.Proofs.Ytggflkjdpibioaa
set_option linter.unusedVariables false
open Go Go.RowKit

instance : DecidableEq Ml := fun a b => if h : a.src = b.src ∧ a.dst = b.dst ∧ a.dat = b.dat then isTrue (Ml.ext' h.1 h.2.1 h.2.2) else isFalse fun e => h (e ▸ ⟨rfl, rfl, rfl⟩)
/-- How many are this one. -/
def cntM (L : List Ml) (c : Ml) : Nat := (L.filter fun m => decide (m = c)).length
theorem cntM_append (a b : List Ml) (c : Ml) : cntM (a ++ b) c = cntM a c + cntM b c := by simp [cntM]
theorem cntM_cons (m : Ml) (t : List Ml) (c : Ml) : (cntM (m :: t) c : Int) = cntM t c + (if m = c then 1 else 0) := by
  unfold cntM
  by_cases h : m = c <;> simp [h]
theorem cntM_split (L : List Ml) (k : Nat) (hk : k < L.length) (c : Ml) : (cntM L c : Int) = cntM (L.take k) c + cntM (L.drop (k + 1)) c + (if L.getD k ml0 = c then 1 else 0) := by
  have e : L = L.take k ++ L.getD k ml0 :: L.drop (k + 1) := by
    conv => lhs; rw [← List.take_append_drop k L, List.drop_eq_getElem_cons hk]
    simp [List.getD, List.getElem?_eq_getElem hk]
  conv => lhs; rw [e]
  rw [cntM_append]
  have := cntM_cons (L.getD k ml0) (L.drop (k + 1)) c
  omega
theorem cnt_send (L : List Ml) (m c : Ml) : (cntM (L ++ [m]) c : Int) = cntM L c + (if m = c then 1 else 0) := by
  rw [cntM_append]
  have := cntM_cons m [] c
  have h0 : cntM [] c = 0 := rfl
  omega
theorem cnt_double (L : List Ml) (i : Nat) (hi : i < L.length) (c : Ml) : (cntM (L.take (i + 1) ++ L.getD i ml0 :: L.drop (i + 1)) c : Int) = cntM L c + (if L.getD i ml0 = c then 1 else 0) := by
  rw [cntM_append]
  have h1 := cntM_cons (L.getD i ml0) (L.drop (i + 1)) c
  have h2 : cntM L c = cntM (L.take (i + 1)) c + cntM (L.drop (i + 1)) c := by rw [← cntM_append, List.take_append_drop]
  omega
theorem cnt_erase (L : List Ml) (i : Nat) (hi : i < L.length) (c : Ml) : (cntM (L.take i ++ L.drop (i + 1)) c : Int) = cntM L c - (if L.getD i ml0 = c then 1 else 0) := by
  have := cntM_split L i hi c
  rw [cntM_append]
  omega
/-- What an act adds, and of which message. -/
def addA (L : List Ml) (x : Ac) : Int := if dB L x = false then 0 else if x.kind % 9 < 4 then 1 else if x.kind % 9 = 7 then 1 else if x.kind % 9 = 4 then 0 else -1
def wasA (L : List Ml) (x : Ac) : Ml := if dB L x = true ∧ x.kind % 9 < 4 then x.m else lookM L x.i
theorem act_adds (L : List Ml) (x : Ac) (hx : x.ok) (c : Ml) : ((dL L x).length : Int) = L.length + addA L x ∧ (cntM (dL L x) c : Int) = cntM L c + (if wasA L x = c then addA L x else 0) := by
  have hk1 := hx.k1
  have hk : 0 ≤ x.kind % 9 ∧ x.kind % 9 < 9 := ⟨by omega, by omega⟩
  obtain ⟨k, m, i⟩ := x
  simp only at hk hk1
  unfold addA wasA dL dB
  simp only
  generalize k % 9 = q at *
  by_cases h4 : q = 4
  · subst h4
    simp
  by_cases h7 : q = 7
  · subst h7
    simp only [show ((7 : Int) = 4) = False from by simp, show ((7 : Int) = 5) = False from by simp, show ((7 : Int) = 6) = False from by simp, show ((7 : Int) = 8) = False from by simp, show ((7 : Int) < 4) = False from by simp, or_self, if_false, if_true, and_false]
    unfold doubleL lookM
    by_cases hi : 0 ≤ i ∧ i < (L.length : Int)
    · obtain ⟨n, rfl⟩ := Int.eq_ofNat_of_zero_le hi.1
      have hn : n < L.length := by omega
      by_cases hl : L.length < 64
      · rw [if_pos ⟨hi, hl⟩, if_pos hi, decide_eq_true ⟨hi, hl⟩]
        simp only [Int.toNat_natCast]
        refine ⟨by simp; omega, ?_⟩
        rw [cnt_double L n hn c]
        simp
      · rw [if_neg (fun h => hl h.2), decide_eq_false (fun h => hl h.2)]
        simp
    · rw [if_neg (fun h => hi h.1), decide_eq_false (fun h => hi h.1)]
      simp
  by_cases h568 : q = 5 ∨ q = 6 ∨ q = 8
  · have hlt : ¬ q < 4 := by omega
    have e1 : q = 4 ∨ q = 5 ∨ q = 6 ∨ q = 8 := by omega
    rw [if_pos e1, if_neg h4, if_pos h568, if_neg hlt, if_neg h7, if_neg h4]
    simp only [hlt, and_false, if_false]
    unfold eraseL lookM lookB
    by_cases hi : 0 ≤ i ∧ i < (L.length : Int)
    · obtain ⟨n, rfl⟩ := Int.eq_ofNat_of_zero_le hi.1
      have hn : n < L.length := by omega
      rw [if_pos hi, if_pos hi, decide_eq_true hi]
      simp only [Int.toNat_natCast]
      refine ⟨by simp; omega, ?_⟩
      rw [cnt_erase L n hn c]
      by_cases hc : L.getD n ml0 = c
      · simp only [hc, if_true]; simp; omega
      · simp only [hc, if_false]; simp
    · rw [if_neg hi, decide_eq_false hi]
      simp
  · have hlt : q < 4 := by omega
    have e1 : ¬ (q = 4 ∨ q = 5 ∨ q = 6 ∨ q = 8) := by omega
    rw [if_neg e1, if_neg h4, if_neg h568, if_neg h7, if_neg h7, if_pos hlt]
    unfold sendL
    by_cases hl : L.length < 64
    · rw [if_pos hl, decide_eq_true hl]
      simp only [hlt, and_self, if_true]
      refine ⟨by simp, ?_⟩
      rw [cnt_send]
      simp
    · rw [if_neg hl, decide_eq_false hl]
      simp

end Go.Proofs.Ytggflkjdpibioaa
