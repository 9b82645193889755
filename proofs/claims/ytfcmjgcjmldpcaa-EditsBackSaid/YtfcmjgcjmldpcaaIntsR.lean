/- Layer 1: the document's answers (spoorref01), each function by a contract. -/
import Derived.Test.YtfcmjgcjmldpcaaKit
import Derived.Test.YtfcmjgcjmldpcaaIntsM
import Derived.Test.YtfcmjgcjmldpcaaChecked
import Derived.Deep.RegionWith
import Derived.BigRegion
namespace Go.Proofs.Ytfcmjgcjmldpcaa
set_option linter.unusedVariables false
open Go Go.RowKit
attribute [local go_sem ↓] run_index_S
attribute [local go_sem] S_append S_extract

/-- A step of the document's Put: digits that are still to come, ahead of those that have. -/
def PutRel (n m : Nat) (acc : List UInt8) : Prop := ∃ k, k + acc.length = 10 ∧ m < 128 ^ k ∧ M.pre k m ++ acc = M.putN n

theorem PutRel.start (n : Nat) (h : n ≤ 9223372036854775807) : PutRel n (n / 128) [UInt8.ofNat (n % 128)] :=
  ⟨9, rfl, by omega, rfl⟩

theorem PutRel.step {n m : Nat} {acc : List UInt8} (h : PutRel n m acc) (hm : 0 < m) : PutRel n (m / 128) ((UInt8.ofNat (m % 128) + 128) :: acc) := by
  obtain ⟨k, h1, h2, h3⟩ := h
  rcases k with _ | k
  · simp at h2; omega
  · refine ⟨k, by simp; omega, by rw [Nat.pow_succ] at h2; omega, ?_⟩
    rw [← h3, M.pre_step k m hm, List.append_assoc, M.u8, UInt8.ofNat_add]; rfl

theorem PutRel.done {n : Nat} {acc : List UInt8} (h : PutRel n 0 acc) : acc = M.putN n := by
  obtain ⟨k, h1, h2, h3⟩ := h
  simpa [M.pre_zero] using h3

theorem PutRel.length {n m : Nat} {acc : List UInt8} (h : PutRel n m acc) : acc.length ≤ 10 := by
  obtain ⟨k, h1, _⟩ := h; omega

/-- What the call comes to, as its three results. -/
def tri (r : Option (Nat × Nat)) : Value := match r with
  | some (n, next) => .tuple #[.int .i64 n, .int .i64 next, .bool true]
  | none => .tuple #[.int .i64 0, .int .i64 0, .bool false]

/-- The bytes of 128 or more at a place, one by one. -/
theorem ld_at_high {l : List UInt8} {a j : Nat} (h : j < M.ld (l.drop a)) : a + j < l.length ∧ 128 ≤ B l (a + j) := by
  have h1 := M.ld_le (l.drop a)
  have h2 : (l.drop a).length = l.length - a := List.length_drop
  refine ⟨by omega, ?_⟩
  have := M.ld_high (l.drop a) j h (by omega)
  rw [B_at l (a + j) (by omega)]
  simp at this
  omega
theorem ld_at_low {l : List UInt8} {a : Nat} (h : a + M.ld (l.drop a) < l.length) : B l (a + M.ld (l.drop a)) < 128 := by
  have := M.ld_low (l.drop a) (by rw [List.length_drop]; omega)
  rw [B_at l _ h]
  simp at this
  omega

/-- One digit more. -/
theorem val_next (l : List UInt8) (a c : Nat) (h : a + c < l.length) : (M.val ((l.drop a).take c) : Int) * 128 + B l (a + c) % 128 = (M.val ((l.drop a).take (c + 1)) : Nat) := by
  rw [M.val_take (l.drop a) c (by rw [List.length_drop]; omega), B_at l _ h]
  simp
theorem val_small (t : List UInt8) (c : Nat) (h : c ≤ 8) : M.val (t.take c) ≤ 72057594037927935 := by
  have h1 := M.val_lt (t.take c)
  have h2 : (t.take c).length ≤ 8 := by rw [List.length_take]; omega
  have h3 : 128 ^ (t.take c).length ≤ 128 ^ 8 := Nat.pow_le_pow_right (by decide) h2
  omega
theorem val_nine (t : List UInt8) (c : Nat) (h : c ≤ 9) : M.val (t.take c) ≤ 9223372036854775807 := by
  have h1 := M.val_lt (t.take c)
  have h2 : (t.take c).length ≤ 9 := by rw [List.length_take]; omega
  have h3 : 128 ^ (t.take c).length ≤ 128 ^ 9 := Nat.pow_le_pow_right (by decide) h2
  omega

theorem gets_some {l : List UInt8} {a k v : Nat} {q : List UInt8} (hk : M.ld (l.drop a) = k) (h : a + k < l.length) (h8 : k ≤ 8) (hv : M.val ((l.drop a).take (k + 1)) = v) (hq : q = (l.drop a).take (k + 1)) (hp : M.putN v = q) :
    M.gets l a = some (v, a + k + 1) := by
  have h1 : k < (l.drop a).length := by rw [List.length_drop]; omega
  subst hv hq
  simp only [M.gets, Int.toNat_natCast, hk]
  rw [if_neg (by omega), if_pos ⟨h1, h8, hp⟩]
theorem gets_none {l : List UInt8} {a k v : Nat} {q : List UInt8} (hk : M.ld (l.drop a) = k) (hv : M.val ((l.drop a).take (k + 1)) = v) (hq : q = (l.drop a).take (k + 1)) (h : ¬ (a + k < l.length ∧ k ≤ 8 ∧ M.putN v = q)) :
    M.gets l a = none := by
  have h1 : (l.drop a).length = l.length - a := List.length_drop
  subst hv hq
  simp only [M.gets, Int.toNat_natCast, hk]
  rw [if_neg (by omega), if_neg (by rw [h1]; intro ⟨x, y, z⟩; exact h ⟨by omega, y, z⟩)]
theorem tri_some {l : List UInt8} {a n m : Nat} {v : Int} {k : Int} (h : M.gets l a = some (n, m)) (hv : v = n) (hk : k = m) : Ending.returned (.tuple #[.int .i64 v, .int .i64 k, .bool true]) = .returned (tri (M.gets l a)) := by
  rw [h, hv, hk]; rfl
theorem tri_none {l : List UInt8} {a : Nat} (h : M.gets l a = none) : Ending.returned (.tuple #[.int .i64 0, .int .i64 0, .bool false]) = .returned (tri (M.gets l a)) := by
  rw [h]; rfl

end Go.Proofs.Ytfcmjgcjmldpcaa
