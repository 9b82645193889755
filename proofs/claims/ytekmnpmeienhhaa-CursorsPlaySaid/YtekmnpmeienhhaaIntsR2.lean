/- Layer 1: the document's answers (spoorref01), continued: OfBig, PutText, GetText. -/
import Derived.Test.YtekmnpmeienhhaaIntsR
namespace Go.Proofs.Ytekmnpmeienhhaa
set_option linter.unusedVariables false
open Go Go.RowKit
attribute [local go_sem ↓] run_index_S
attribute [local go_sem] S_append S_extract

theorem refGet_any (l : List UInt8) (at_ : Int) (w : World) (hl : l.length ≤ 9223372036854775807) :
    Calls Try.prog 82 #[.string (S l), .int .i64 at_] w fun e w' => e = .returned (tri (M.gets l at_)) ∧ Below w.heap.size w w' := by
  by_cases h : at_ < 0 ∨ (l.length : Int) ≤ at_
  · refine (refGet_out l at_ w hl h).mono fun e w' ⟨he, hw⟩ => ?_
    rw [M.gets_out l at_ h]
    exact ⟨he, hw ▸ Below.refl _ _⟩
  · obtain ⟨a, rfl⟩ := Int.eq_ofNat_of_zero_le (show 0 ≤ at_ by omega)
    exact refGet_in l a w hl (by omega)

/-- What OfBig comes to, as its two results. -/
def duo (r : Option Nat) : Value := match r with
  | some n => .tuple #[.int .i64 n, .bool true]
  | none => .tuple #[.int .i64 0, .bool false]

theorem val8_next (l : List UInt8) (a c : Nat) (h : a + c < l.length) : (M.val8 ((l.drop a).take c) : Int) * 256 + B l (a + c) = (M.val8 ((l.drop a).take (c + 1)) : Nat) := by
  rw [M.val8_take (l.drop a) c (by rw [List.length_drop]; omega), B_at l _ h]
  simp
/-- Eight bytes whose first one is below 128 are an int; so are the first of them. -/
theorem val8_small (l : List UInt8) (a c : Nat) (h : a + 8 ≤ l.length) (hb : B l a < 128) (hc : c ≤ 8) : M.val8 ((l.drop a).take c) ≤ 9223372036854775807 ∧ (c ≤ 7 → M.val8 ((l.drop a).take c) ≤ 36028797018963967) := by
  rcases c with _ | c
  · simp [M.val8]
  · have e : (l.drop a).take (c + 1) = l[a] :: (l.drop (a + 1)).take c := by
      rw [List.drop_eq_getElem_cons (by omega), List.take_succ_cons]
    rw [B_at l a (by omega)] at hb
    have h1 := M.val8_lt ((l.drop (a + 1)).take c)
    have h2 : ((l.drop (a + 1)).take c).length = c := by rw [List.length_take, List.length_drop]; omega
    rw [e, M.val8_cons, h2]
    rw [h2] at h1
    have h3 : (l[a]).toNat * 256 ^ c ≤ 127 * 256 ^ c := Nat.mul_le_mul_right _ (by omega)
    have h4 : 256 ^ c ≤ 256 ^ 7 := Nat.pow_le_pow_right (by decide) (by omega)
    refine ⟨by omega, fun h7 => ?_⟩
    have h5 : 256 ^ c ≤ 256 ^ 6 := Nat.pow_le_pow_right (by decide) (by omega)
    omega

theorem ofBigs_some {l : List UInt8} {a : Nat} (h : a + 8 ≤ l.length) (hb : B l a < 128) : M.ofBigs l a = some (M.val8 ((l.drop a).take 8)) := by
  unfold M.ofBigs
  rw [if_neg (by simp only [Int.toNat_natCast]; unfold B at hb; omega)]
  rfl
theorem ofBigs_none {l : List UInt8} {at_ : Int} (h : at_ < 0 ∨ (l.length : Int) - 8 < at_ ∨ 128 ≤ B l at_.toNat) : M.ofBigs l at_ = none := by
  unfold M.ofBigs
  rw [if_pos (by unfold B at h; omega)]
theorem duo_none {r : Option Nat} (h : r = none) : Ending.returned (.tuple #[.int .i64 0, .bool false]) = .returned (duo r) := by rw [h]; rfl
theorem duo_some {r : Option Nat} {n : Nat} {v : Int} (h : r = some n) (hv : v = n) : Ending.returned (.tuple #[.int .i64 v, .bool true]) = .returned (duo r) := by rw [h, hv]; rfl

/-- What GetText comes to. -/
def triT (r : Option (List UInt8 × Nat)) : Value := match r with
  | some (t, next) => .tuple #[.string (S t), .int .i64 next, .bool true]
  | none => .tuple #[.string (S []), .int .i64 0, .bool false]

theorem triT_some {r : Option (List UInt8 × Nat)} {t u : List UInt8} {n : Nat} {v : Int} (h : r = some (u, n)) (ht : t = u) (hv : v = n) : Ending.returned (.tuple #[.string ⟨t.toArray⟩, .int .i64 v, .bool true]) = .returned (triT r) := by
  rw [h, hv, ht]; rfl
theorem triT_none {r : Option (List UInt8 × Nat)} (h : r = none) : Ending.returned (.tuple #[.string ⟨#[]⟩, .int .i64 0, .bool false]) = .returned (triT r) := by
  rw [h]; rfl

end Go.Proofs.Ytekmnpmeienhhaa
