/- Layer 8: keys, the program's and the document's, by contracts. -/
import Derived.Test.YtjlddackpckmfaaKeysO
import Derived.Test.YtjlddackpckmfaaZC
import Derived.Test.YtjlddackpckmfaaZA
import Derived.Deep.QuietTactic
import Derived.BigQuiet
import Derived.Lib.QuietBelow
namespace Go.Proofs.Ytjlddackpckmfaa
set_option linter.unusedVariables false
open Go Go.RowKit
attribute [local go_sem ↓] run_index_S
attribute [local go_sem] S_append S_extract

theorem ret_si {a b : List UInt8} {n m : Int} (h : a = b) (k : n = m) : Ending.returned (.tuple #[.string ⟨a.toArray⟩, .int .i64 n]) = .returned (.tuple #[.string ⟨b.toArray⟩, .int .i64 m]) := by rw [h, k]
theorem ret_ss {a b c d : List UInt8} (h : a = b) (k : c = d) : Ending.returned (.tuple #[.string ⟨a.toArray⟩, .string ⟨c.toArray⟩]) = .returned (.tuple #[.string ⟨b.toArray⟩, .string ⟨d.toArray⟩]) := by rw [h, k]
theorem aheadK_eq (a b : List UInt8) : 120 :: (a ++ 0 :: (b ++ [0])) = M.aheadK a b := rfl
theorem indexK_eq (a b : List UInt8) (x y z : Nat) : M.aheadK a b ++ (M.bigN x ++ (M.bigN y ++ M.bigN z)) = M.indexK a b x y z := rfl

theorem isID_any (n : Int) (w : World) :
    Calls Try.prog 44 #[.int .i64 n] w fun e w' => e = .returned (.bool (M.idB n)) ∧ w = w' := by
  by_cases h1 : 1 ≤ n
  · by_cases h2 : n ≤ 2147483647
    · go_enter Try.func44, Try.ntmps44
      go_wp2_with fail
      go_ret
      exact ⟨ret_bool (M.idB_true.2 ⟨h1, h2⟩).symm, rfl⟩
    · go_enter Try.func44, Try.ntmps44
      go_wp2_with fail
      go_ret
      exact ⟨ret_bool (M.win_false.2 (by omega)).symm, rfl⟩
  · go_enter Try.func44, Try.ntmps44
    go_wp2_with fail
    go_ret
    exact ⟨ret_bool (M.win_false.2 (by omega)).symm, rfl⟩

theorem start_any (a b : List UInt8) (ha : a.length ≤ 1000) (hb : b.length ≤ 1000) (w : World) :
    Calls Try.prog 46 #[.string (S a), .string (S b)] w fun e w' => e = .returned (.string (S (M.aheadK a b))) ∧ w = w' := by
  go_enter Try.func46, Try.ntmps46
  go_wp2_with fail
  go_ret
  exact ⟨ret_str (by simp [M.aheadK]), rfl⟩

theorem of_any (t i : Int) (w : World) :
    Calls Try.prog 28 #[.int .i64 t, .int .i64 i] w fun e w' => e = .returned (.tuple #[.string (S (M.ofK t i)), .int .i64 (M.errOf (M.okOf t i))]) ∧ Below w.heap.size w w' := by
  have c1 := fun W => isID_any t W
  have c2 := fun W => isID_any i W
  cases ht : M.idB t with
  | false =>
    have e1 : M.okOf t i = false := by simp [M.okOf, ht]
    rw [M.ofK, e1]
    rw [ht] at c1
    have C1 := Lib.hid c1
    clear c1 c2
    go_enter Try.func28, Try.ntmps28
    go_wp2_with fail
    with_reducible refine (C1.out _).mono ?_
    rintro e w1 ⟨rfl, rfl⟩
    go_wp2_with fail
    go_ret2
    exact ⟨rfl, Below.refl _ _⟩
  | true =>
    cases hi : M.idB i with
    | false =>
      have e1 : M.okOf t i = false := by simp [M.okOf, ht, hi]
      rw [M.ofK, e1]
      rw [ht] at c1
      rw [hi] at c2
      have C1 := Lib.hid c1
      have C2 := Lib.hid c2
      clear c1 c2
      go_enter Try.func28, Try.ntmps28
      go_wp2_with fail
      with_reducible refine (C1.out _).mono ?_
      rintro e w1 ⟨rfl, rfl⟩
      go_wp2_with fail
      with_reducible refine (C2.out _).mono ?_
      rintro e w1 ⟨rfl, rfl⟩
      go_wp2_with fail
      go_ret2
      exact ⟨rfl, Below.refl _ _⟩
    | true =>
      have e1 : M.okOf t i = true := by simp [M.okOf, ht, hi]
      rw [M.ofK, e1]
      have h1 := M.idB_true.1 ht
      have h2 := M.idB_true.1 hi
      obtain ⟨t, rfl⟩ := Int.eq_ofNat_of_zero_le (show 0 ≤ t by omega)
      obtain ⟨i, rfl⟩ := Int.eq_ofNat_of_zero_le (show 0 ≤ i by omega)
      rw [ht] at c1
      rw [hi] at c2
      have c3 := fun W => big_nat t W (by omega)
      have c4 := fun W => big_nat i W (by omega)
      have l3 := M.bigN_length t
      have l4 := M.bigN_length i
      have hK : M.spanK t i = 115 :: (M.bigN t ++ M.bigN i) := rfl
      have C1 := Lib.hid c1
      have C2 := Lib.hid c2
      have HK := Lib.hid hK
      have hl3 : (M.bigN t).length ≤ 8 := by omega
      have hl4 : (M.bigN i).length ≤ 8 := by omega
      simp only [Int.toNat_natCast, if_true]
      clear c1 c2 hK l3 l4
      generalize M.bigN t = bt at *
      generalize M.bigN i = bi at *
      have C3 := Lib.hid c3
      have C4 := Lib.hid c4
      clear c3 c4
      go_enter Try.func28, Try.ntmps28
      go_wp2_with fail
      with_reducible refine (C1.out _).mono ?_
      rintro e w1 ⟨rfl, rfl⟩
      go_wp2_with fail
      with_reducible refine (C2.out _).mono ?_
      rintro e w1 ⟨rfl, rfl⟩
      go_wp2_with fail
      with_reducible refine (C3.out _).mono ?_
      rintro e w1 ⟨rfl, hb1⟩
      go_wp2_with fail
      with_reducible refine (C4.out _).mono ?_
      rintro e w2 ⟨rfl, hb2⟩
      go_wp2_with fail
      go_ret2
      exact ⟨ret_si (by rw [HK.out]) rfl, below_step hb1 hb2⟩

theorem refIsID_any (n : Int) (w : World) :
    Calls Try.prog 50 #[.int .i64 n] w fun e w' => e = .returned (.bool (M.idB n)) ∧ w = w' := by
  by_cases h1 : 1 ≤ n
  · by_cases h2 : n ≤ 2147483647
    · go_enter Try.func50, Try.ntmps50
      go_wp2_with fail
      go_ret
      exact ⟨ret_bool (M.idB_true.2 ⟨h1, h2⟩).symm, rfl⟩
    · go_enter Try.func50, Try.ntmps50
      go_wp2_with fail
      go_ret
      exact ⟨ret_bool (M.win_false.2 (by omega)).symm, rfl⟩
  · go_enter Try.func50, Try.ntmps50
    go_wp2_with fail
    go_ret
    exact ⟨ret_bool (M.win_false.2 (by omega)).symm, rfl⟩

theorem refStart_any (a b : List UInt8) (ha : a.length ≤ 1000) (hb : b.length ≤ 1000) (w : World) :
    Calls Try.prog 52 #[.string (S a), .string (S b)] w fun e w' => e = .returned (.string (S (M.aheadK a b))) ∧ w = w' := by
  go_enter Try.func52, Try.ntmps52
  go_wp2_with fail
  go_ret
  exact ⟨ret_str (by simp [M.aheadK]), rfl⟩

theorem refOf_any (t i : Int) (w : World) :
    Calls Try.prog 31 #[.int .i64 t, .int .i64 i] w fun e w' => e = .returned (.tuple #[.string (S (M.ofK t i)), .int .i64 (M.errOf (M.okOf t i))]) ∧ Below w.heap.size w w' := by
  have c1 := fun W => refIsID_any t W
  have c2 := fun W => refIsID_any i W
  cases ht : M.idB t with
  | false =>
    have e1 : M.okOf t i = false := by simp [M.okOf, ht]
    rw [M.ofK, e1]
    rw [ht] at c1
    have C1 := Lib.hid c1
    clear c1 c2
    go_enter Try.func31, Try.ntmps31
    go_wp2_with fail
    with_reducible refine (C1.out _).mono ?_
    rintro e w1 ⟨rfl, rfl⟩
    go_wp2_with fail
    go_ret2
    exact ⟨rfl, Below.refl _ _⟩
  | true =>
    cases hi : M.idB i with
    | false =>
      have e1 : M.okOf t i = false := by simp [M.okOf, ht, hi]
      rw [M.ofK, e1]
      rw [ht] at c1
      rw [hi] at c2
      have C1 := Lib.hid c1
      have C2 := Lib.hid c2
      clear c1 c2
      go_enter Try.func31, Try.ntmps31
      go_wp2_with fail
      with_reducible refine (C1.out _).mono ?_
      rintro e w1 ⟨rfl, rfl⟩
      go_wp2_with fail
      with_reducible refine (C2.out _).mono ?_
      rintro e w1 ⟨rfl, rfl⟩
      go_wp2_with fail
      go_ret2
      exact ⟨rfl, Below.refl _ _⟩
    | true =>
      have e1 : M.okOf t i = true := by simp [M.okOf, ht, hi]
      rw [M.ofK, e1]
      have h1 := M.idB_true.1 ht
      have h2 := M.idB_true.1 hi
      obtain ⟨t, rfl⟩ := Int.eq_ofNat_of_zero_le (show 0 ≤ t by omega)
      obtain ⟨i, rfl⟩ := Int.eq_ofNat_of_zero_le (show 0 ≤ i by omega)
      rw [ht] at c1
      rw [hi] at c2
      have c3 := fun W => refBig_nat t W (by omega)
      have c4 := fun W => refBig_nat i W (by omega)
      have l3 := M.bigN_length t
      have l4 := M.bigN_length i
      have hK : M.spanK t i = 115 :: (M.bigN t ++ M.bigN i) := rfl
      have C1 := Lib.hid c1
      have C2 := Lib.hid c2
      have HK := Lib.hid hK
      have hl3 : (M.bigN t).length ≤ 8 := by omega
      have hl4 : (M.bigN i).length ≤ 8 := by omega
      simp only [Int.toNat_natCast, if_true]
      clear c1 c2 hK l3 l4
      generalize M.bigN t = bt at *
      generalize M.bigN i = bi at *
      have C3 := Lib.hid c3
      have C4 := Lib.hid c4
      clear c3 c4
      go_enter Try.func31, Try.ntmps31
      go_wp2_with fail
      with_reducible refine (C1.out _).mono ?_
      rintro e w1 ⟨rfl, rfl⟩
      go_wp2_with fail
      with_reducible refine (C2.out _).mono ?_
      rintro e w1 ⟨rfl, rfl⟩
      go_wp2_with fail
      with_reducible refine (C3.out _).mono ?_
      rintro e w1 ⟨rfl, hb1⟩
      go_wp2_with fail
      with_reducible refine (C4.out _).mono ?_
      rintro e w2 ⟨rfl, hb2⟩
      go_wp2_with fail
      go_ret2
      exact ⟨ret_si (by rw [HK.out]) rfl, below_step hb1 hb2⟩

end Go.Proofs.Ytjlddackpckmfaa
