import Derived.Test.YtmammmjmipgmoaaGreatDoorZHf
import Derived.Test.YtmammmjmipgmoaaGreatDoorZU
import Derived.Test.YtmammmjmipgmoaaGreatDoorZQh
set_option linter.unusedVariables false
set_option maxRecDepth 100000
set_option maxHeartbeats 16000000
namespace Go.Proofs.YtmammmjmipgmoaaGreatDoor
open Go Go.RowKit Go.Maps
namespace Hl
def spX (n : Nat) : M.Sp := { trace := 1 + (n : Int) % 7, id := 1 + (n : Int), parent := 0, svc := [115], host := [104], start := (n : Int), dur := 0, note := [] }
theorem spX_fits {n : Nat} (h : n ≤ 1000) : (spX n).fits := by
 constructor <;> simp [spX] <;> omega
def exI : Nat → Dk.St × Lg
 | 0 => (Dk.new 5000, ⟨0, false, []⟩)
 | n + 1 => ((append6 (spX n) (exI n).2 (exI n).1).2.1, (append6 (spX n) (exI n).2 (exI n).1).2.2)
def exOk (i : Nat) : Bool := decide ((append6 (spX i) (exI i).2 (exI i).1).1 = 0) && decide (endN (exI i).2 ≤ 890) && decide ((exI i).2.S.length < 1000)
theorem ex_ok : ∀ i : Fin 17, exOk i.val = true := by decide +kernel
theorem ex_okN {i : Nat} (h : i < 17) : (append6 (spX i) (exI i).2 (exI i).1).1 = 0 ∧ endN (exI i).2 ≤ 890 ∧ (exI i).2.S.length < 1000 := by
 have := ex_ok ⟨i, h⟩;unfold exOk at this;simp only [Bool.and_eq_true, decide_eq_true_eq] at this;exact ⟨this.1.1, this.1.2, this.2⟩
def exZ : List Sg := [⟨0, (List.range 16).map spX⟩, ⟨16, [spX 16]⟩]
def ex17 : Dk.St × Lg := exI 17
theorem ex_seg : ex17.2.S = exZ.map smOf := by kernel_rfl
theorem ex_may : ∀ i : Fin 17, M.mayB (spX i.val) = true := by decide +kernel
theorem ex_mays (l : List Nat) (h : ∀ n ∈ l, n < 17) : Mays (l.map spX) := fun x hx => by
 obtain ⟨n, hn, rfl⟩ := List.mem_map.1 hx;exact ⟨ex_may ⟨n, h n hn⟩, spX_fits (by have := h n hn; omega)⟩
theorem ex_r0 : Dk.read (nm 0) ex17.1 = (0, dat ((List.range 16).map spX) ++ []) := by kernel_rfl
theorem ex_r1 : Dk.read (nm 16) ex17.1 = (0, dat [spX 16] ++ []) := by kernel_rfl
theorem ex_rd : RdOk ex17.1 exZ := fun s hs => by
 have hs2 : s = ⟨0, (List.range 16).map spX⟩ ∨ s = ⟨16, [spX 16]⟩ := by simpa [exZ] using hs
 rcases hs2 with rfl | rfl
 ·exact ⟨[], ex_r0, ex_mays _ (fun n hn => by have := List.mem_range.1 hn; omega), tail_nil, by simp⟩
 ·exact ⟨[], ex_r1, ex_mays [16] (fun n hn => by simp at hn; omega), tail_nil, by simp⟩
theorem ex_e1 : readE ex17.1 ex17.2 15 9 = 0 := by kernel_rfl
theorem ex_n1 : readNb ex17.1 ex17.2 15 9 = 16 := by kernel_rfl
theorem ex_s1 : readS exZ ex17.1 ex17.2 15 9 = [spX 15] := by kernel_rfl
theorem ex_e2 : readE ex17.1 ex17.2 17 1 = 4 := by kernel_rfl
theorem ex_names : Dk.names ex17.1.L = [[108, 48], [108, 49, 54]] := by kernel_rfl
theorem ex_sure : sureL ex17.1 ex17.2 = 16 := by kernel_rfl
theorem ex_end : endL ex17.1 ex17.2 = 17 := by kernel_rfl
def exA : Int × Dk.St × Lg := sync ex17.2 ex17.1
def exB : Int × Dk.St × Lg := rotate6 exA.2.2 exA.2.1
def exC : Int × Dk.St × Lg := rotate6 exB.2.2 exB.2.1
def exD : Int × Dk.St × Lg := retain6 2 exC.2.2 exC.2.1
theorem ex_four : exA.1 = 0 ∧ exB.1 = 0 ∧ exC.1 = 0 ∧ exD.1 = 0 := ⟨by kernel_rfl, by kernel_rfl, by kernel_rfl, by kernel_rfl⟩
theorem ex_small : endN exA.2.2 ≤ 890 ∧ exA.2.2.S.length < 1000 ∧ endN exB.2.2 ≤ 890 ∧ exB.2.2.S.length < 1000 := by decide +kernel
theorem ex_names2 : Dk.names exD.2.1.L = [[108, 49, 54], [108, 49, 55]] := by kernel_rfl
theorem ex_first : firstL exD.2.1 exD.2.2 = 16 := by kernel_rfl
theorem ld_new (n : Nat) : LdOk (Dk.new n) [] [] := ⟨Has0.nums ⟨⟨List.Pairwise.nil, (fun f hf => by cases hf), (fun f hf => by cases hf)⟩, (fun f hf => by cases hf)⟩, (fun i hi => by simp at hi), (fun s hs => by cases hs), tail_nil, (fun i hi => by simp at hi), by simp, (fun s hs => by cases hs), fun _ => rfl⟩
theorem open_new (n : Nat) : openR [] [] (Dk.new n) = (0, Dk.new n) := by
 unfold openR;rw [if_neg (by simp [Dk.new])];rfl
end Hl
end Go.Proofs.YtmammmjmipgmoaaGreatDoor
