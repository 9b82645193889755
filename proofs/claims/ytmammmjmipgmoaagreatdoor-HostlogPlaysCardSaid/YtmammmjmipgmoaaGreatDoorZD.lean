import Derived.Test.YtmammmjmipgmoaaGreatDoorZB
import Derived.Test.YtmammmjmipgmoaaGreatDoorZA
import Derived.Deep.QuietTactic
import Derived.BigQuiet
import Derived.Lib.QuietBelow
import Derived.Test.YtmammmjmipgmoaaGreatDoorShelf
import Derived.Lib.IndexLaws
import Derived.Lib.BufSteps
import Derived.Maps.AppendAt
import Derived.RangeFuncNested
import Derived.RangeFuncBound
import Derived.RangeFuncCalls
import Derived.RangeFuncLeaves
import Derived.Shelf.Abstract
import Derived.Shelf.RegionOpen
import Derived.OwnWalkIn
import Derived.TacticsInMore
import Derived.LoopNIn
import Derived.LoopIn
import Derived.RangeFuncBox
import Derived.RangeFuncFrom
import Derived.Maps.OwnIn
import Derived.Test.YtmammmjmipgmoaaGreatDoorZQh
set_option linter.unusedVariables false
set_option maxRecDepth 100000
set_option maxHeartbeats 16000000
namespace Go.Proofs.YtmammmjmipgmoaaGreatDoor
namespace M
def frameP (p : List UInt8) : List UInt8 := [2] ++ [UInt8.ofNat (p.length / 256), UInt8.ofNat (p.length % 256)] ++ p ++ big 4 (sumP p) ++ [3]
theorem frameP_length (p : List UInt8) : (frameP p).length = p.length + 8 := by
 simp [frameP, big_length]
def many (s : List UInt8) (a : Nat) : Nat := (s.getD (a + 1) 0).toNat * 256 + (s.getD (a + 2) 0).toNat
structure Stands (s : List UInt8) (a : Nat) : Prop where
 room : a + 8 ≤ s.length
 two : s.getD a 0 = 2
 most : many s a ≤ 16384
 fits : a + many s a + 8 ≤ s.length
 three : s.getD (a + many s a + 7) 0 = 3
 sum : Jah s (a + many s a + 3) (a + many s a + 7) = big 4 (sumP (Jah s (a + 3) (a + many s a + 3)))
instance (s : List UInt8) (a : Nat) : Decidable (Stands s a) :=
 decidable_of_iff (a + 8 ≤ s.length ∧ s.getD a 0 = 2 ∧ many s a ≤ 16384 ∧ a + many s a + 8 ≤ s.length ∧ s.getD (a + many s a + 7) 0 = 3 ∧ Jah s (a + many s a + 3) (a + many s a + 7) = big 4 (sumP (Jah s (a + 3) (a + many s a + 3))))
  ⟨fun ⟨h1, h2, h3, h4, h5, h6⟩ => ⟨h1, h2, h3, h4, h5, h6⟩, fun h => ⟨h.room, h.two, h.most, h.fits, h.three, h.sum⟩⟩
def next (s : List UInt8) (a : Nat) : Option (List UInt8 × Nat) := if Stands s a then some (Jah s (a + 3) (a + many s a + 3), a + many s a + 8) else none
def nextI (s : List UInt8) (at_ : Int) : Option (List UInt8 × Nat) := if 0 ≤ at_ then next s at_.toNat else none
theorem nextI_nat (s : List UInt8) (a : Nat) : nextI s a = next s a := by simp [nextI]
theorem nextI_neg (s : List UInt8) (at_ : Int) (h : at_ < 0) : nextI s at_ = none := by rw [nextI, if_neg (by omega)]
theorem next_no {s : List UInt8} {a : Nat} (h : ¬ Stands s a) : next s a = none := by rw [next, if_neg h]
theorem next_yes {s : List UInt8} {a : Nat} (h : Stands s a) : next s a = some (Jah s (a + 3) (a + many s a + 3), a + many s a + 8) := by rw [next, if_pos h]
theorem next_bounds {s p : List UInt8} {a e : Nat} (h : next s a = some (p, e)) : Stands s a ∧ a + 8 ≤ e ∧ e ≤ s.length ∧ e = a + p.length + 8 ∧ p.length ≤ 16384 ∧ p = Jah s (a + 3) (a + many s a + 3) := by
 unfold next at h;split at h
 ·rename_i hs
  simp only [Option.some.injEq, Prod.mk.injEq] at h;obtain ⟨h1, h2⟩ := h;have hf := hs.fits;have hm := hs.most;have hl : p.length = many s a := by rw [← h1, Jbh _ _ _ (by omega) (by omega)]; omega
  exact ⟨hs, by omega, by omega, by omega, by omega, h1.symm⟩
 ·simp at h
end M
section
open Go Go.RowKit
attribute [local go_sem ↓] run_index_S
attribute [local go_sem] S_append S_extract
theorem ret_fe {a b : List UInt8} {n : Int} (h : a = b) : Ending.returned (.tuple #[.string ⟨a.toArray⟩, .int .i64 n]) = .returned (.tuple #[.string ⟨b.toArray⟩, .int .i64 n]) := by rw [h]
theorem Jbo (l : List UInt8) (a : Nat) (h : a < l.length) : (l.drop a).take 1 = [l.getD a 0] := by
 rw [List.drop_eq_getElem_cons h, List.take_succ_cons, List.take_zero];simp [List.getD, List.getElem?_eq_getElem h]
theorem Jbj (l : List UInt8) (a : Nat) (h : a < l.length) : Jah l a (a + 1) = [l.getD a 0] := by
 rw [Jah, show a + 1 - a = 1 from by omega, Jbo l a h]
theorem Jbx (l : List UInt8) (a i j : Nat) : Jah (l.drop a) i j = Jah l (a + i) (a + j) := by
 unfold Jah;rw [List.drop_drop, show a + j - (a + i) = j - i from by omega]
theorem Jc2 (l : List UInt8) (a i : Nat) : B (l.drop a) i = B l (a + i) := by
 simp [B, List.getD]
theorem Jny (l : List UInt8) (hl : l.length ≤ 16384) (w : World) :
  Calls Tryz.prog 68 #[.string (S l)] w fun e w' => e = .returned (.tuple #[.string (S (M.frameP l)), .int .i64 0]) ∧ Below w.heap.size w w' := by
 have d1 : decide (16384 < (l.length : Int)) = false := by simp; omega
 have c1 := fun W => Jfm l (by omega) W
 have c2 := fun W => Jeo (M.sumP l) (M.sumP_lt l) W
 have ktwo := @Jgc Tryz.prog 116 9 5 Tryz.underlying116 Tryz.underlying5 Tryz.underlying9;have hb : (M.big 4 (M.sumP l)).length ≤ 4 := Nat.le_of_eq (M.big_length 4 (M.sumP l));have hfr : M.frameP l = [2] ++ [UInt8.ofNat (l.length / 256), UInt8.ofNat (l.length % 256)] ++ l ++ M.big 4 (M.sumP l) ++ [3] := rfl;generalize M.big 4 (M.sumP l) = q at *;generalize M.frameP l = f at *;have C1 := Qh c1;have C2 := Qh c2;have HF := Qh hfr;clear c1 c2 hfr;go_enter Tryz.func68, Tryz.ntmps68;go_wp2_with fail;with_reducible refine (C1.o _).mono ?_
 rintro e w1 ⟨rfl, hb1⟩;go_wp2_with fail;with_reducible refine (C2.o _).mono ?_
 rintro e w2 ⟨rfl, hb2⟩;go_wp2_with fail;go_ret2
 refine ⟨ret_fe ?_, Jaa (Jaa (Qa _) hb1) hb2⟩;rw [HF.o];simp
theorem Jnz (l : List UInt8) (at_ : Int) (h : at_ < 0) (w : World) :
  Calls Tryz.prog 151 #[.string (S l), .int .i64 at_] w fun e w' => e = .returned (.tuple #[.string ⟨#[]⟩, .int .i64 0, .bool false]) ∧ w = w' := by
 go_enter Tryz.func151, Tryz.ntmps151;go_wp2_with fail;go_ret3
 exact ⟨rfl, rfl⟩
theorem Jn0 (l : List UInt8) (at_ : Int) (h0 : 0 ≤ at_) (h : (l.length : Int) ≤ at_) (w : World) :
  Calls Tryz.prog 151 #[.string (S l), .int .i64 at_] w fun e w' => e = .returned (.tuple #[.string ⟨#[]⟩, .int .i64 0, .bool false]) ∧ w = w' := by
 go_enter Tryz.func151, Tryz.ntmps151;go_wp2_with fail;go_ret3
 exact ⟨rfl, rfl⟩
theorem Jk0 (l : List UInt8) (hl : l.length ≤ 9223372036854775807) (a : Nat) (h : a < l.length) (h8 : l.length < a + 8) (w : World) :
  Calls Tryz.prog 151 #[.string (S l), .int .i64 a] w fun e w' => e = .returned (.tuple #[.string ⟨#[]⟩, .int .i64 0, .bool false]) ∧ w = w' := by
 have d1 : decide ((l.length : Int) ≤ (a : Int)) = false := by simp; omega
 have hs0 := Ja6 (P := Tryz.prog) 9 Tryz.underlying9 l (a : Int) a rfl (by omega);have hrl : (l.drop a).length ≤ 7 := by rw [List.length_drop]; omega
 generalize l.drop a = r at *;have d2 : decide ((r.length : Int) < 8) = true := by simp; omega
 go_enter Tryz.func151, Tryz.ntmps151;go_wp2_with fail;go_ret3
 exact ⟨rfl, rfl⟩
theorem Jn1 (l : List UInt8) (hl : l.length ≤ 9223372036854775807) (a : Nat) (h8 : a + 8 ≤ l.length) (h2 : ¬ l.getD a 0 = 2) (w : World) :
  Calls Tryz.prog 151 #[.string (S l), .int .i64 a] w fun e w' => e = .returned (.tuple #[.string ⟨#[]⟩, .int .i64 0, .bool false]) ∧ w = w' := by
 have d1 : decide ((l.length : Int) ≤ (a : Int)) = false := by simp; omega
 have hs0 := Ja6 (P := Tryz.prog) 9 Tryz.underlying9 l (a : Int) a rfl (by omega);have hrl : 8 ≤ (l.drop a).length := by rw [List.length_drop]; omega
 have hr1 : (l.drop a).take 1 = [l.getD a 0] := Jbo l a (by omega);have hs1 := Jat (P := Tryz.prog) 9 Tryz.underlying9 (l.drop a) 1 1 rfl (by omega);rw [hr1] at hs1;generalize l.drop a = r at *;generalize l.getD a 0 = x at *;have d2 : decide ((r.length : Int) < 8) = false := by simp; omega
 have hx : (x == 2) = false := by simpa using h2
 have HX := Qh hr1;clear hr1;go_enter Tryz.func151, Tryz.ntmps151;go_wp2_with fail;go_ret3
 exact ⟨rfl, rfl⟩
theorem Jmd (l : List UInt8) (hl : l.length ≤ 9223372036854775807) (a : Nat) (h8 : a + 8 ≤ l.length) (h2 : l.getD a 0 = 2) (hm : 16384 < M.many l a) (w : World) :
  Calls Tryz.prog 151 #[.string (S l), .int .i64 a] w fun e w' => e = .returned (.tuple #[.string ⟨#[]⟩, .int .i64 0, .bool false]) ∧ Below w.heap.size w w' := by
 have d1 : decide ((l.length : Int) ≤ (a : Int)) = false := by simp; omega
 have hs0 := Ja6 (P := Tryz.prog) 9 Tryz.underlying9 l (a : Int) a rfl (by omega);have hrl : (l.drop a).length + a = l.length := by rw [List.length_drop]; omega
 have hs1 := Jat (P := Tryz.prog) 9 Tryz.underlying9 (l.drop a) 1 1 rfl (by omega);rw [Jbo l a (by omega), h2] at hs1;have b1 := Jan (l.drop a) 1;have b2 := Jan (l.drop a) 2
 have hj : bits .or .i64 (B (l.drop a) 1 * 256) (B (l.drop a) 2) = ((M.many l a : Nat) : Int) := by
  rw [Jft _ _ b1.1 (by omega) b2.1 (by omega), Jc2, Jc2];unfold M.many B;omega
 generalize M.many l a = m at *;have d3 : decide (16384 < (m : Int)) = true := by simp; omega
 generalize l.drop a = r at *;have d2 : decide ((r.length : Int) < 8) = false := by simp; omega
 go_enter Tryz.func151, Tryz.ntmps151;go_wp2_with fail;go_quiet (fail)
 go_wp2_with fail;go_ret3
 exact ⟨rfl, below_drewN (Below.refl _ _) _⟩
theorem Jme (l : List UInt8) (hl : l.length ≤ 9223372036854775807) (a : Nat) (h8 : a + 8 ≤ l.length) (h2 : l.getD a 0 = 2) (hm : M.many l a ≤ 16384) (hf : l.length < a + M.many l a + 8) (w : World) :
  Calls Tryz.prog 151 #[.string (S l), .int .i64 a] w fun e w' => e = .returned (.tuple #[.string ⟨#[]⟩, .int .i64 0, .bool false]) ∧ Below w.heap.size w w' := by
 have d1 : decide ((l.length : Int) ≤ (a : Int)) = false := by simp; omega
 have hs0 := Ja6 (P := Tryz.prog) 9 Tryz.underlying9 l (a : Int) a rfl (by omega);have hrl : (l.drop a).length + a = l.length := by rw [List.length_drop]; omega
 have hs1 := Jat (P := Tryz.prog) 9 Tryz.underlying9 (l.drop a) 1 1 rfl (by omega);rw [Jbo l a (by omega), h2] at hs1;have b1 := Jan (l.drop a) 1;have b2 := Jan (l.drop a) 2
 have hj : bits .or .i64 (B (l.drop a) 1 * 256) (B (l.drop a) 2) = ((M.many l a : Nat) : Int) := by
  rw [Jft _ _ b1.1 (by omega) b2.1 (by omega), Jc2, Jc2];unfold M.many B;omega
 generalize M.many l a = m at *;have d3 : decide (16384 < (m : Int)) = false := by simp; omega
 generalize l.drop a = r at *;have d2 : decide ((r.length : Int) < 8) = false := by simp; omega
 have d4 : decide ((r.length : Int) < (m : Int) + 8) = true := by simp; omega
 go_enter Tryz.func151, Tryz.ntmps151;go_wp2_with fail;go_quiet (fail)
 go_wp2_with fail;go_ret3
 exact ⟨rfl, below_drewN (Below.refl _ _) _⟩
theorem Jk1 (l : List UInt8) (hl : l.length ≤ 9223372036854775807) (a : Nat) (h8 : a + 8 ≤ l.length) (h2 : l.getD a 0 = 2) (hm : M.many l a ≤ 16384) (hf : a + M.many l a + 8 ≤ l.length) (h3 : ¬ l.getD (a + M.many l a + 7) 0 = 3) (w : World) :
  Calls Tryz.prog 151 #[.string (S l), .int .i64 a] w fun e w' => e = .returned (.tuple #[.string ⟨#[]⟩, .int .i64 0, .bool false]) ∧ Below w.heap.size w w' := by
 have d1 : decide ((l.length : Int) ≤ (a : Int)) = false := by simp; omega
 have hs0 := Ja6 (P := Tryz.prog) 9 Tryz.underlying9 l (a : Int) a rfl (by omega);have hrl : (l.drop a).length + a = l.length := by rw [List.length_drop]; omega
 have hs1 := Jat (P := Tryz.prog) 9 Tryz.underlying9 (l.drop a) 1 1 rfl (by omega);rw [Jbo l a (by omega), h2] at hs1;have b1 := Jan (l.drop a) 1;have b2 := Jan (l.drop a) 2
 have hj : bits .or .i64 (B (l.drop a) 1 * 256) (B (l.drop a) 2) = ((M.many l a : Nat) : Int) := by
  rw [Jft _ _ b1.1 (by omega) b2.1 (by omega), Jc2, Jc2];unfold M.many B;omega
 have hs2 := Ja2 (P := Tryz.prog) 9 Tryz.underlying9 (l.drop a) ((M.many l a : Int) + 8 - 1) ((M.many l a : Int) + 8) (M.many l a + 7) (M.many l a + 8) (by omega) (by omega) (by omega) (by omega);rw [Jbx, show a + (M.many l a + 8) = a + (M.many l a + 7) + 1 from by omega, Jbj l _ (by omega), show a + (M.many l a + 7) = a + M.many l a + 7 from by omega] at hs2;generalize l.getD (a + M.many l a + 7) 0 = x at *;have hx : (x == 3) = false := by simpa using h3
 generalize M.many l a = m at *;have d3 : decide (16384 < (m : Int)) = false := by simp; omega
 generalize l.drop a = r at *;have d2 : decide ((r.length : Int) < 8) = false := by simp; omega
 have d4 : decide ((r.length : Int) < (m : Int) + 8) = false := by simp; omega
 go_enter Tryz.func151, Tryz.ntmps151;go_wp2_with fail;go_quiet (fail)
 go_wp2_with fail;go_ret3
 exact ⟨rfl, below_drewN (Below.refl _ _) _⟩
theorem Jn2 (l : List UInt8) (hl : l.length ≤ 9223372036854775807) (a : Nat) (h8 : a + 8 ≤ l.length) (h2 : l.getD a 0 = 2) (hm : M.many l a ≤ 16384) (hf : a + M.many l a + 8 ≤ l.length) (h3 : l.getD (a + M.many l a + 7) 0 = 3) (hs : ¬ Jah l (a + M.many l a + 3) (a + M.many l a + 7) = M.big 4 (M.sumP (Jah l (a + 3) (a + M.many l a + 3)))) (w : World) :
  Calls Tryz.prog 151 #[.string (S l), .int .i64 a] w fun e w' => e = .returned (.tuple #[.string ⟨#[]⟩, .int .i64 0, .bool false]) ∧ Below w.heap.size w w' := by
 have d1 : decide ((l.length : Int) ≤ (a : Int)) = false := by simp; omega
 have hs0 := Ja6 (P := Tryz.prog) 9 Tryz.underlying9 l (a : Int) a rfl (by omega);have hrl : (l.drop a).length + a = l.length := by rw [List.length_drop]; omega
 have hs1 := Jat (P := Tryz.prog) 9 Tryz.underlying9 (l.drop a) 1 1 rfl (by omega);rw [Jbo l a (by omega), h2] at hs1;have b1 := Jan (l.drop a) 1;have b2 := Jan (l.drop a) 2
 have hj : bits .or .i64 (B (l.drop a) 1 * 256) (B (l.drop a) 2) = ((M.many l a : Nat) : Int) := by
  rw [Jft _ _ b1.1 (by omega) b2.1 (by omega), Jc2, Jc2];unfold M.many B;omega
 have hs2 := Ja2 (P := Tryz.prog) 9 Tryz.underlying9 (l.drop a) ((M.many l a : Int) + 8 - 1) ((M.many l a : Int) + 8) (M.many l a + 7) (M.many l a + 8) (by omega) (by omega) (by omega) (by omega);rw [Jbx, show a + (M.many l a + 8) = a + (M.many l a + 7) + 1 from by omega, Jbj l _ (by omega), show a + (M.many l a + 7) = a + M.many l a + 7 from by omega] at hs2;rw [h3] at hs2;have hs3 := Ja2 (P := Tryz.prog) 9 Tryz.underlying9 (l.drop a) 3 (3 + (M.many l a : Int)) 3 (3 + M.many l a) (by omega) (by omega) (by omega) (by omega);rw [Jbx, show a + (3 + M.many l a) = a + M.many l a + 3 from by omega] at hs3;have hs4 := Ja2 (P := Tryz.prog) 9 Tryz.underlying9 (l.drop a) (3 + (M.many l a : Int)) ((M.many l a : Int) + 8 - 1) (3 + M.many l a) (M.many l a + 7) (by omega) (by omega) (by omega) (by omega);rw [Jbx, show a + (3 + M.many l a) = a + M.many l a + 3 from by omega, show a + (M.many l a + 7) = a + M.many l a + 7 from by omega] at hs4;have hpl := Jbh l (a + 3) (a + M.many l a + 3) (by omega) (by omega);have c1 := fun W => Jfm (Jah l (a + 3) (a + M.many l a + 3)) (by omega) W
 have c2 := fun W => Jeo (M.sumP (Jah l (a + 3) (a + M.many l a + 3))) (M.sumP_lt _) W
 generalize Jah l (a + 3) (a + M.many l a + 3) = p at *;generalize M.sumP p = sp at *;generalize M.big 4 sp = v at *;generalize Jah l (a + M.many l a + 3) (a + M.many l a + 7) = u at *;generalize M.many l a = m at *;have d3 : decide (16384 < (m : Int)) = false := by simp; omega
 generalize l.drop a = r at *;have d2 : decide ((r.length : Int) < 8) = false := by simp; omega
 have d4 : decide ((r.length : Int) < (m : Int) + 8) = false := by simp; omega
 have C1 := Qh c1;have C2 := Qh c2;clear c1 c2;have huv : (u == v) = false := by simpa using hs
 go_enter Tryz.func151, Tryz.ntmps151;go_wp2_with fail;go_quiet (fail)
 go_wp2_with fail;refine wp_region_quiet_below (by kernel_rfl) (by kernel_rfl) ?_;repeat (go_big_quiet_step ((first | (go_at_call 121; with_reducible exact Calls.regrown_of (C1.o _)) | (go_at_call 120; with_reducible exact Calls.regrown_of (C2.o _)))))
 refine wpQuiet_nil ?_;intro _ hw1;obtain ⟨⟨d, o⟩, hw1⟩ := hw1;subst hw1;go_wp2_with fail;go_ret3
 exact ⟨rfl, Jaa (below_drewN (Below.refl _ _) _) (below_regrown _ d o)⟩
theorem Jjl (l : List UInt8) (hl : l.length ≤ 9223372036854775807) (a : Nat) (h8 : a + 8 ≤ l.length) (h2 : l.getD a 0 = 2) (hm : M.many l a ≤ 16384) (hf : a + M.many l a + 8 ≤ l.length) (h3 : l.getD (a + M.many l a + 7) 0 = 3) (hs : Jah l (a + M.many l a + 3) (a + M.many l a + 7) = M.big 4 (M.sumP (Jah l (a + 3) (a + M.many l a + 3)))) (w : World) :
  Calls Tryz.prog 151 #[.string (S l), .int .i64 a] w fun e w' => e = .returned (.tuple #[.string (S (Jah l (a + 3) (a + M.many l a + 3))), .int .i64 ((a + M.many l a + 8 : Nat)), .bool true]) ∧ Below w.heap.size w w' := by
 have d1 : decide ((l.length : Int) ≤ (a : Int)) = false := by simp; omega
 have hs0 := Ja6 (P := Tryz.prog) 9 Tryz.underlying9 l (a : Int) a rfl (by omega);have hrl : (l.drop a).length + a = l.length := by rw [List.length_drop]; omega
 have hs1 := Jat (P := Tryz.prog) 9 Tryz.underlying9 (l.drop a) 1 1 rfl (by omega);rw [Jbo l a (by omega), h2] at hs1;have b1 := Jan (l.drop a) 1;have b2 := Jan (l.drop a) 2
 have hj : bits .or .i64 (B (l.drop a) 1 * 256) (B (l.drop a) 2) = ((M.many l a : Nat) : Int) := by
  rw [Jft _ _ b1.1 (by omega) b2.1 (by omega), Jc2, Jc2];unfold M.many B;omega
 have hs2 := Ja2 (P := Tryz.prog) 9 Tryz.underlying9 (l.drop a) ((M.many l a : Int) + 8 - 1) ((M.many l a : Int) + 8) (M.many l a + 7) (M.many l a + 8) (by omega) (by omega) (by omega) (by omega);rw [Jbx, show a + (M.many l a + 8) = a + (M.many l a + 7) + 1 from by omega, Jbj l _ (by omega), show a + (M.many l a + 7) = a + M.many l a + 7 from by omega] at hs2;rw [h3] at hs2;have hs3 := Ja2 (P := Tryz.prog) 9 Tryz.underlying9 (l.drop a) 3 (3 + (M.many l a : Int)) 3 (3 + M.many l a) (by omega) (by omega) (by omega) (by omega);rw [Jbx, show a + (3 + M.many l a) = a + M.many l a + 3 from by omega] at hs3;have hs4 := Ja2 (P := Tryz.prog) 9 Tryz.underlying9 (l.drop a) (3 + (M.many l a : Int)) ((M.many l a : Int) + 8 - 1) (3 + M.many l a) (M.many l a + 7) (by omega) (by omega) (by omega) (by omega);rw [Jbx, show a + (3 + M.many l a) = a + M.many l a + 3 from by omega, show a + (M.many l a + 7) = a + M.many l a + 7 from by omega] at hs4;have hpl := Jbh l (a + 3) (a + M.many l a + 3) (by omega) (by omega);have c1 := fun W => Jfm (Jah l (a + 3) (a + M.many l a + 3)) (by omega) W
 have c2 := fun W => Jeo (M.sumP (Jah l (a + 3) (a + M.many l a + 3))) (M.sumP_lt _) W
 generalize Jah l (a + 3) (a + M.many l a + 3) = p at *;generalize M.sumP p = sp at *;generalize M.big 4 sp = v at *;generalize Jah l (a + M.many l a + 3) (a + M.many l a + 7) = u at *;generalize M.many l a = m at *;have d3 : decide (16384 < (m : Int)) = false := by simp; omega
 generalize l.drop a = r at *;have d2 : decide ((r.length : Int) < 8) = false := by simp; omega
 have d4 : decide ((r.length : Int) < (m : Int) + 8) = false := by simp; omega
 have C1 := Qh c1;have C2 := Qh c2;clear c1 c2;subst hs;go_enter Tryz.func151, Tryz.ntmps151;go_wp2_with fail;go_quiet (fail)
 go_wp2_with fail;refine wp_region_quiet_below (by kernel_rfl) (by kernel_rfl) ?_;repeat (go_big_quiet_step ((first | (go_at_call 121; with_reducible exact Calls.regrown_of (C1.o _)) | (go_at_call 120; with_reducible exact Calls.regrown_of (C2.o _)))))
 refine wpQuiet_nil ?_;intro _ hw1;obtain ⟨⟨d, o⟩, hw1⟩ := hw1;subst hw1;go_wp2_with fail;go_ret3
 exact ⟨rfl, Jaa (below_drewN (Below.refl _ _) _) (below_regrown _ d o)⟩
def triF (r : Option (List UInt8 × Nat)) : Value := match r with
 | some (p, e) => .tuple #[.string (S p), .int .i64 e, .bool true]
 | none => .tuple #[.string (S []), .int .i64 0, .bool false]
theorem Jn3 (l : List UInt8) (hl : l.length ≤ 9223372036854775807) (at_ : Int) (w : World) :
  Calls Tryz.prog 151 #[.string (S l), .int .i64 at_] w fun e w' => e = .returned (triF (M.nextI l at_)) ∧ Below w.heap.size w w' := by
 by_cases h0 : at_ < 0
 ·rw [M.nextI_neg l at_ h0]
  exact (Jnz l at_ h0 w).mono fun e w' ⟨he, hw⟩ => ⟨he, hw ▸ Below.refl _ _⟩
 ·obtain ⟨a, rfl⟩ := Int.eq_ofNat_of_zero_le (show 0 ≤ at_ by omega)
  rw [M.nextI_nat];by_cases h1 : l.length ≤ a
  ·rw [M.next_no (fun h => by have := h.room; omega)]
   exact (Jn0 l a (by omega) (by omega) w).mono fun e w' ⟨he, hw⟩ => ⟨he, hw ▸ Below.refl _ _⟩
  ·by_cases h8 : l.length < a + 8
   ·rw [M.next_no (fun h => by have := h.room; omega)]
    exact (Jk0 l hl a (by omega) h8 w).mono fun e w' ⟨he, hw⟩ => ⟨he, hw ▸ Below.refl _ _⟩
   ·by_cases h2 : l.getD a 0 = 2
    ·by_cases hm : 16384 < M.many l a
     ·rw [M.next_no (fun h => by have := h.most; omega)]
      exact Jmd l hl a (by omega) h2 hm w
     ·by_cases hf : l.length < a + M.many l a + 8
      ·rw [M.next_no (fun h => by have := h.fits; omega)]
       exact Jme l hl a (by omega) h2 (by omega) hf w
      ·by_cases h3 : l.getD (a + M.many l a + 7) 0 = 3
       ·by_cases hs : Jah l (a + M.many l a + 3) (a + M.many l a + 7) = M.big 4 (M.sumP (Jah l (a + 3) (a + M.many l a + 3)))
        ·rw [M.next_yes ⟨by omega, h2, by omega, by omega, h3, hs⟩]
         exact Jjl l hl a (by omega) h2 (by omega) (by omega) h3 hs w
        ·rw [M.next_no (fun h => hs h.sum)]
         exact Jn2 l hl a (by omega) h2 (by omega) (by omega) h3 hs w
       ·rw [M.next_no (fun h => h3 h.three)]
        exact Jk1 l hl a (by omega) h2 (by omega) (by omega) h3 w
    ·rw [M.next_no (fun h => h2 h.two)]
     exact (Jn1 l hl a (by omega) h2 w).mono fun e w' ⟨he, hw⟩ => ⟨he, hw ▸ Below.refl _ _⟩
end
section
open Go Go.RowKit
attribute [local go_sem ↓] run_index_S
attribute [local go_sem] S_append S_extract
theorem B_is (l : List UInt8) (a : Nat) : (B l a == 2) = (l.getD a 0 == 2) := by
 rw [Bool.eq_iff_iff, beq_iff_eq, beq_iff_eq];unfold B;constructor
 ·intro h
  exact M.u8_ext (by have : (l.getD a 0).toNat = 2 := by omega
                     rw [this]; rfl)
 ·intro h; rw [h]; rfl
theorem Jk2 (l : List UInt8) (a : Nat) : (B l a == 3) = (l.getD a 0 == 3) := by
 rw [Bool.eq_iff_iff, beq_iff_eq, beq_iff_eq];unfold B;constructor
 ·intro h
  exact M.u8_ext (by have : (l.getD a 0).toNat = 3 := by omega
                     rw [this]; rfl)
 ·intro h; rw [h]; rfl
theorem Jjm (l : List UInt8) (hl : l.length ≤ 140737488351232) (at_ : Int) (h : at_ < 0) (w : World) :
  Calls Tryz.prog 136 #[.string (S l), .int .i64 at_] w fun e w' => e = .returned (.tuple #[.string ⟨#[]⟩, .int .i64 0, .bool false]) ∧ w = w' := by
 go_enter Tryz.func136, Tryz.ntmps136;go_wp2_with fail;go_ret3
 exact ⟨rfl, rfl⟩
theorem Jjn (l : List UInt8) (hl : l.length ≤ 140737488351232) (at_ : Int) (h0 : 0 ≤ at_) (h : (l.length : Int) - 8 < at_) (w : World) :
  Calls Tryz.prog 136 #[.string (S l), .int .i64 at_] w fun e w' => e = .returned (.tuple #[.string ⟨#[]⟩, .int .i64 0, .bool false]) ∧ w = w' := by
 have d0 : decide (at_ < 0) = false := by simp; omega
 have d1 : decide ((l.length : Int) - 8 < at_) = true := by simp; omega
 go_enter Tryz.func136, Tryz.ntmps136;go_wp2_with fail;go_ret3
 exact ⟨rfl, rfl⟩
theorem Jjo (l : List UInt8) (hl : l.length ≤ 140737488351232) (a : Nat) (h8 : a + 8 ≤ l.length) (h2 : ¬ l.getD a 0 = 2) (w : World) :
  Calls Tryz.prog 136 #[.string (S l), .int .i64 a] w fun e w' => e = .returned (.tuple #[.string ⟨#[]⟩, .int .i64 0, .bool false]) ∧ w = w' := by
 have d1 : decide ((l.length : Int) - 8 < (a : Int)) = false := by simp; omega
 have hb : (B l a != 2) = true := by rw [bne, B_is]; simpa using h2
 go_enter Tryz.func136, Tryz.ntmps136;go_wp2_with fail;go_ret3
 exact ⟨rfl, rfl⟩
theorem Jh9 (l : List UInt8) (hl : l.length ≤ 140737488351232) (a : Nat) (h8 : a + 8 ≤ l.length) (h2 : l.getD a 0 = 2) (hm : 16384 < M.many l a) (w : World) :
  Calls Tryz.prog 136 #[.string (S l), .int .i64 a] w fun e w' => e = .returned (.tuple #[.string ⟨#[]⟩, .int .i64 0, .bool false]) ∧ Below w.heap.size w w' := by
 have d1 : decide ((l.length : Int) - 8 < (a : Int)) = false := by simp; omega
 have hb : (B l a != 2) = false := by rw [bne, B_is]; simpa using h2
 have b1 := Jan l (a + 1);have b2 := Jan l (a + 2);have t1 : ((a : Int) + 1).toNat = a + 1 := by omega
 have t2 : ((a : Int) + 2).toNat = a + 2 := by omega
 have hj : 256 * B l (a + 1) + B l (a + 2) = ((M.many l a : Nat) : Int) := by
  unfold M.many B;omega
 generalize M.many l a = m at *;have d3 : decide (16384 < (m : Int)) = true := by simp; omega
 go_enter Tryz.func136, Tryz.ntmps136;go_wp2_with fail;go_quiet (fail)
 go_wp2_with fail;go_ret3
 exact ⟨rfl, below_drewN (Below.refl _ _) _⟩
theorem Jia (l : List UInt8) (hl : l.length ≤ 140737488351232) (a : Nat) (h8 : a + 8 ≤ l.length) (h2 : l.getD a 0 = 2) (hm : M.many l a ≤ 16384) (hf : l.length < a + M.many l a + 8) (w : World) :
  Calls Tryz.prog 136 #[.string (S l), .int .i64 a] w fun e w' => e = .returned (.tuple #[.string ⟨#[]⟩, .int .i64 0, .bool false]) ∧ Below w.heap.size w w' := by
 have d1 : decide ((l.length : Int) - 8 < (a : Int)) = false := by simp; omega
 have hb : (B l a != 2) = false := by rw [bne, B_is]; simpa using h2
 have b1 := Jan l (a + 1);have b2 := Jan l (a + 2);have t1 : ((a : Int) + 1).toNat = a + 1 := by omega
 have t2 : ((a : Int) + 2).toNat = a + 2 := by omega
 have hj : 256 * B l (a + 1) + B l (a + 2) = ((M.many l a : Nat) : Int) := by
  unfold M.many B;omega
 generalize M.many l a = m at *;have d3 : decide (16384 < (m : Int)) = false := by simp; omega
 have d4 : decide ((l.length : Int) < (a : Int) + 3 + (m : Int) + 5) = true := by simp; omega
 go_enter Tryz.func136, Tryz.ntmps136;go_wp2_with fail;go_quiet (fail)
 go_wp2_with fail;go_ret3
 exact ⟨rfl, below_drewN (Below.refl _ _) _⟩
theorem Jhn (l : List UInt8) (hl : l.length ≤ 140737488351232) (a : Nat) (h8 : a + 8 ≤ l.length) (h2 : l.getD a 0 = 2) (hm : M.many l a ≤ 16384) (hf : a + M.many l a + 8 ≤ l.length) (h3 : ¬ l.getD (a + M.many l a + 7) 0 = 3) (w : World) :
  Calls Tryz.prog 136 #[.string (S l), .int .i64 a] w fun e w' => e = .returned (.tuple #[.string ⟨#[]⟩, .int .i64 0, .bool false]) ∧ Below w.heap.size w w' := by
 have d1 : decide ((l.length : Int) - 8 < (a : Int)) = false := by simp; omega
 have hb : (B l a != 2) = false := by rw [bne, B_is]; simpa using h2
 have b1 := Jan l (a + 1);have b2 := Jan l (a + 2);have t1 : ((a : Int) + 1).toNat = a + 1 := by omega
 have t2 : ((a : Int) + 2).toNat = a + 2 := by omega
 have hj : 256 * B l (a + 1) + B l (a + 2) = ((M.many l a : Nat) : Int) := by
  unfold M.many B;omega
 have t3 : ((a : Int) + 3 + (M.many l a : Int) + 4).toNat = a + M.many l a + 7 := by omega
 have hx : (B l (a + M.many l a + 7) != 3) = true := by rw [bne, Jk2]; simpa using h3
 generalize M.many l a = m at *;have d3 : decide (16384 < (m : Int)) = false := by simp; omega
 have d4 : decide ((l.length : Int) < (a : Int) + 3 + (m : Int) + 5) = false := by simp; omega
 go_enter Tryz.func136, Tryz.ntmps136;go_wp2_with fail;go_quiet (fail)
 go_wp2_with fail;go_ret3
 exact ⟨rfl, below_drewN (Below.refl _ _) _⟩
theorem Jjp (l : List UInt8) (hl : l.length ≤ 140737488351232) (a : Nat) (h8 : a + 8 ≤ l.length) (h2 : l.getD a 0 = 2) (hm : M.many l a ≤ 16384) (hf : a + M.many l a + 8 ≤ l.length) (h3 : l.getD (a + M.many l a + 7) 0 = 3) (hs : ¬ Jah l (a + M.many l a + 3) (a + M.many l a + 7) = M.big 4 (M.sumP (Jah l (a + 3) (a + M.many l a + 3)))) (w : World) :
  Calls Tryz.prog 136 #[.string (S l), .int .i64 a] w fun e w' => e = .returned (.tuple #[.string ⟨#[]⟩, .int .i64 0, .bool false]) ∧ Below w.heap.size w w' := by
 have d1 : decide ((l.length : Int) - 8 < (a : Int)) = false := by simp; omega
 have hb : (B l a != 2) = false := by rw [bne, B_is]; simpa using h2
 have b1 := Jan l (a + 1);have b2 := Jan l (a + 2);have t1 : ((a : Int) + 1).toNat = a + 1 := by omega
 have t2 : ((a : Int) + 2).toNat = a + 2 := by omega
 have hj : 256 * B l (a + 1) + B l (a + 2) = ((M.many l a : Nat) : Int) := by
  unfold M.many B;omega
 have t3 : ((a : Int) + 3 + (M.many l a : Int) + 4).toNat = a + M.many l a + 7 := by omega
 have hx : (B l (a + M.many l a + 7) != 3) = false := by rw [bne, Jk2]; simpa using h3
 have hs3 := Ja2 (P := Tryz.prog) 9 Tryz.underlying9 l ((a : Int) + 3) ((a : Int) + 3 + (M.many l a : Int)) (a + 3) (a + M.many l a + 3) (by omega) (by omega) (by omega) (by omega);have hs4 := Ja2 (P := Tryz.prog) 9 Tryz.underlying9 l ((a : Int) + 3 + (M.many l a : Int)) ((a : Int) + 3 + (M.many l a : Int) + 4) (a + M.many l a + 3) (a + M.many l a + 7) (by omega) (by omega) (by omega) (by omega);have hpl := Jbh l (a + 3) (a + M.many l a + 3) (by omega) (by omega);have c1 : ∀ W, Calls Tryz.prog 146 #[.string (S (Jah l (a + 3) (a + M.many l a + 3)))] W fun e w' => e = .returned (.int .u32 (M.sumP (Jah l (a + 3) (a + M.many l a + 3)))) ∧ Below W.heap.size W w' := fun W => (Jd5 (Jah l (a + 3) (a + M.many l a + 3)) (by omega) W).mono fun e w' ⟨he, hw⟩ => ⟨he, hw ▸ Below.refl _ _⟩
 have c2 := fun W => Jdi (M.sumP (Jah l (a + 3) (a + M.many l a + 3))) (M.sumP_lt _) W
 generalize Jah l (a + 3) (a + M.many l a + 3) = p at *;generalize M.sumP p = sp at *;generalize M.big 4 sp = v at *;generalize Jah l (a + M.many l a + 3) (a + M.many l a + 7) = u at *;generalize M.many l a = m at *;have d3 : decide (16384 < (m : Int)) = false := by simp; omega
 have d4 : decide ((l.length : Int) < (a : Int) + 3 + (m : Int) + 5) = false := by simp; omega
 have C1 := Qh c1;have C2 := Qh c2;clear c1 c2;have hvu : (v == u) = false := by simp; exact fun h => hs h.symm
 go_enter Tryz.func136, Tryz.ntmps136;go_wp2_with fail;go_quiet (fail)
 go_wp2_with fail;refine wp_region_quiet_below (by kernel_rfl) (by kernel_rfl) ?_;repeat (go_big_quiet_step ((first | (go_at_call 146; with_reducible exact Calls.regrown_of (C1.o _)) | (go_at_call 145; with_reducible exact Calls.regrown_of (C2.o _)))))
 refine wpQuiet_nil ?_;intro _ hw1;obtain ⟨⟨d, o⟩, hw1⟩ := hw1;subst hw1;go_wp2_with fail;go_ret3
 exact ⟨rfl, Jaa (below_drewN (Below.refl _ _) _) (below_regrown _ d o)⟩
theorem Jgf (l : List UInt8) (hl : l.length ≤ 140737488351232) (a : Nat) (h8 : a + 8 ≤ l.length) (h2 : l.getD a 0 = 2) (hm : M.many l a ≤ 16384) (hf : a + M.many l a + 8 ≤ l.length) (h3 : l.getD (a + M.many l a + 7) 0 = 3) (hs : Jah l (a + M.many l a + 3) (a + M.many l a + 7) = M.big 4 (M.sumP (Jah l (a + 3) (a + M.many l a + 3)))) (w : World) :
  Calls Tryz.prog 136 #[.string (S l), .int .i64 a] w fun e w' => e = .returned (.tuple #[.string (S (Jah l (a + 3) (a + M.many l a + 3))), .int .i64 ((a + M.many l a + 8 : Nat)), .bool true]) ∧ Below w.heap.size w w' := by
 have d1 : decide ((l.length : Int) - 8 < (a : Int)) = false := by simp; omega
 have hb : (B l a != 2) = false := by rw [bne, B_is]; simpa using h2
 have b1 := Jan l (a + 1);have b2 := Jan l (a + 2);have t1 : ((a : Int) + 1).toNat = a + 1 := by omega
 have t2 : ((a : Int) + 2).toNat = a + 2 := by omega
 have hj : 256 * B l (a + 1) + B l (a + 2) = ((M.many l a : Nat) : Int) := by
  unfold M.many B;omega
 have t3 : ((a : Int) + 3 + (M.many l a : Int) + 4).toNat = a + M.many l a + 7 := by omega
 have hx : (B l (a + M.many l a + 7) != 3) = false := by rw [bne, Jk2]; simpa using h3
 have hs3 := Ja2 (P := Tryz.prog) 9 Tryz.underlying9 l ((a : Int) + 3) ((a : Int) + 3 + (M.many l a : Int)) (a + 3) (a + M.many l a + 3) (by omega) (by omega) (by omega) (by omega);have hs4 := Ja2 (P := Tryz.prog) 9 Tryz.underlying9 l ((a : Int) + 3 + (M.many l a : Int)) ((a : Int) + 3 + (M.many l a : Int) + 4) (a + M.many l a + 3) (a + M.many l a + 7) (by omega) (by omega) (by omega) (by omega);have hpl := Jbh l (a + 3) (a + M.many l a + 3) (by omega) (by omega);have c1 : ∀ W, Calls Tryz.prog 146 #[.string (S (Jah l (a + 3) (a + M.many l a + 3)))] W fun e w' => e = .returned (.int .u32 (M.sumP (Jah l (a + 3) (a + M.many l a + 3)))) ∧ Below W.heap.size W w' := fun W => (Jd5 (Jah l (a + 3) (a + M.many l a + 3)) (by omega) W).mono fun e w' ⟨he, hw⟩ => ⟨he, hw ▸ Below.refl _ _⟩
 have c2 := fun W => Jdi (M.sumP (Jah l (a + 3) (a + M.many l a + 3))) (M.sumP_lt _) W
 generalize Jah l (a + 3) (a + M.many l a + 3) = p at *;generalize M.sumP p = sp at *;generalize M.big 4 sp = v at *;generalize Jah l (a + M.many l a + 3) (a + M.many l a + 7) = u at *;generalize M.many l a = m at *;have d3 : decide (16384 < (m : Int)) = false := by simp; omega
 have d4 : decide ((l.length : Int) < (a : Int) + 3 + (m : Int) + 5) = false := by simp; omega
 have C1 := Qh c1;have C2 := Qh c2;clear c1 c2;subst hs;go_enter Tryz.func136, Tryz.ntmps136;go_wp2_with fail;go_quiet (fail)
 go_wp2_with fail;refine wp_region_quiet_below (by kernel_rfl) (by kernel_rfl) ?_;repeat (go_big_quiet_step ((first | (go_at_call 146; with_reducible exact Calls.regrown_of (C1.o _)) | (go_at_call 145; with_reducible exact Calls.regrown_of (C2.o _)))))
 refine wpQuiet_nil ?_;intro _ hw1;obtain ⟨⟨d, o⟩, hw1⟩ := hw1;subst hw1;go_wp2_with fail;have hen : (a : Int) + 3 + (m : Int) + 5 = ((a + m + 8 : Nat) : Int) := by omega
 go_ret3
 exact ⟨by first | rfl | (rw [← hen]; rfl), Jaa (below_drewN (Below.refl _ _) _) (below_regrown _ d o)⟩
theorem Jjq (l : List UInt8) (hl : l.length ≤ 140737488351232) (at_ : Int) (w : World) :
  Calls Tryz.prog 136 #[.string (S l), .int .i64 at_] w fun e w' => e = .returned (triF (M.nextI l at_)) ∧ Below w.heap.size w w' := by
 by_cases h0 : at_ < 0
 ·rw [M.nextI_neg l at_ h0]
  exact (Jjm l hl at_ h0 w).mono fun e w' ⟨he, hw⟩ => ⟨he, hw ▸ Below.refl _ _⟩
 ·obtain ⟨a, rfl⟩ := Int.eq_ofNat_of_zero_le (show 0 ≤ at_ by omega)
  rw [M.nextI_nat];by_cases h8 : l.length < a + 8
  ·rw [M.next_no (fun h => by have := h.room; omega)]
   exact (Jjn l hl a (by omega) (by omega) w).mono fun e w' ⟨he, hw⟩ => ⟨he, hw ▸ Below.refl _ _⟩
  ·by_cases h2 : l.getD a 0 = 2
   ·by_cases hm : 16384 < M.many l a
    ·rw [M.next_no (fun h => by have := h.most; omega)]
     exact Jh9 l hl a (by omega) h2 hm w
    ·by_cases hf : l.length < a + M.many l a + 8
     ·rw [M.next_no (fun h => by have := h.fits; omega)]
      exact Jia l hl a (by omega) h2 (by omega) hf w
     ·by_cases h3 : l.getD (a + M.many l a + 7) 0 = 3
      ·by_cases hs : Jah l (a + M.many l a + 3) (a + M.many l a + 7) = M.big 4 (M.sumP (Jah l (a + 3) (a + M.many l a + 3)))
       ·rw [M.next_yes ⟨by omega, h2, by omega, by omega, h3, hs⟩]
        exact Jgf l hl a (by omega) h2 (by omega) (by omega) h3 hs w
       ·rw [M.next_no (fun h => hs h.sum)]
        exact Jjp l hl a (by omega) h2 (by omega) (by omega) h3 hs w
      ·rw [M.next_no (fun h => h3 h.three)]
       exact Jhn l hl a (by omega) h2 (by omega) (by omega) h3 w
   ·rw [M.next_no (fun h => h2 h.two)]
    exact (Jjo l hl a (by omega) h2 w).mono fun e w' ⟨he, hw⟩ => ⟨he, hw ▸ Below.refl _ _⟩
end
section
open Go Go.RowKit
attribute [local go_sem ↓] run_index_S
attribute [local go_sem] S_append S_extract
theorem info8 : (Tryz.prog.info? 5).map (fun i => (i.zero, i.size, i.bytes)) = some (some (.int .u8 0), 1, 1) := by kernel_rfl
def u8s (l : List UInt8) : List Value := l.map fun b => Value.int .u8 b.toNat
theorem Jgg (a b : List UInt8) : u8s (a ++ b) = u8s a ++ u8s b := by simp [u8s]
theorem Jkf (l : List UInt8) : Lib.strCells (S l) = u8s l := by simp [Lib.strCells, u8s]
theorem Jfw (l : List UInt8) : (S l).size = l.length := by simp [ByteArray.size]
theorem Jg6 {B : Nat} {e : TypeId} {v : Value} {n : Nat} {xs : List Value} {W0 w w' : World} (h : Lib.OwnBuf B e v n xs W0 w) (hb : Below w.heap.size w w') : Lib.OwnBuf B e v n xs W0 w' := by
 obtain ⟨h1, h2, h3⟩ := h;refine ⟨?_, h2.trans (hb.mono h3), Nat.le_trans h3 hb.size⟩;obtain ⟨hx, hc⟩ := h1;refine ⟨hx, ?_⟩;rcases hc with hc | ⟨g, cap, cur, fz, rfl, hBg, hgg, rest⟩
 ·exact .inl hc
 ·exact .inr ⟨g, cap, cur, fz, rfl, hBg, by rw [hb.block g (Array.getElem?_eq_some_iff.1 hgg).1]; exact hgg, rest⟩
theorem Jn4 {P : Program} {B : Nat} {e : TypeId} {v : Value} {W0 w : World} (l : List UInt8) {n : Nat} (hn : n = l.length) (hpos : 0 < n) (h : Lib.OwnBuf B e v n (u8s l) W0 w) (src dst : TypeId) (hs : P.underlying src = some (.slice e)) (he : P.underlying e = some (.int .u8)) (hd : P.underlying dst = some .string) :
  (convert src dst v).run P w = .ok (.string ⟨l.toArray⟩) w := by
 obtain ⟨h1, _, _⟩ := h;have h1' := h1;rcases h1.2 with ⟨_, h0⟩ | ⟨g, cap, cur, fz, rfl, _, hgg, _⟩
 ·omega
 ·have hc := h1'.cells (g := g) (by simp [Value.ownBlock])
  subst hn;exact run_convert_bytes_back w src dst e ⟨g, 0, none⟩ cap l hs he hd (fun j hj => hc j _ (by simp [u8s, List.getElem?_eq_getElem hj]))
theorem Jel {P : Program} {ops : Array Oper} {rest : List Oper} {o : Oper} {a : Act} {Q : Exit → Act → World → Prop} (hgd : o.guard = none) (s x : Operand) (t : TypeId)
  (ho : o.op = .call { callee := .builtin .append, args := #[s, x], argTypes := #[t, t] })
  (B : Nat) (e : TypeId) (i : TypeInfo) (ht : P.underlying t = some (.slice e)) (hi : P.info? e = some i) (hz : i.zero = some (.int .u8 0)) (hsize : i.size = 1) (hby : i.bytes = 1)
  (v : Value) (n : Nat) (xs : List Value) (hs : a.eval s = v) (W0 w0 : World) (c0 c1 c2 : Int) (hb : Lib.OwnBuf B e v n xs W0 w0)
  (hx : a.eval x = .slice (some ⟨w0.heap.size, 0, none⟩) 3 3) (hlen : n + 3 ≤ 140737488355328)
  (h : ∀ v' w', Lib.OwnBuf B e v' (n + 3) (xs ++ [.int .u8 c0, .int .u8 c1, .int .u8 c2]) W0 w' → wpList P ops Q rest (a.put o.dst v') w') : wpList P ops Q (o :: rest) a (w0.alloc (.cells #[.int .u8 c0, .int .u8 c1, .int .u8 c2] e)) := by
 have hb' := hb.alloc (.cells #[.int .u8 c0, .int .u8 c1, .int .u8 c2] e);refine wpList_append_ownF _ hgd s x t ho B e i (.int .u8 0) 1 1 ht hi hz hsize hby rfl (by decide) v n xs hs hb'.1 ⟨w0.heap.size, 0, none⟩ 3 3 [.int .u8 c0, .int .u8 c1, .int .u8 c2] hx rfl ?_ ?_ (by unfold maxLen; omega) (by omega) hb'.2.2 ?_
 ·intro j u hj
  match j, hj with
  | 0, hj => simp at hj; subst hj; simp [Addr.add]
  | 1, hj => simp at hj; subst hj; simp [Addr.add]
  | 2, hj => simp at hj; subst hj; simp [Addr.add]
  | (j + 3), hj => simp at hj
 ·intro u hu; simp at hu; rcases hu with rfl | rfl | rfl <;> rfl
 ·intro v' w' ho' hg _
  exact h v' w' (hb'.grown ho' hg)
theorem Jjr (l : List UInt8) (hl : l.length ≤ 16384) (w : World) :
  Calls Tryz.prog 101 #[.string (S l)] w fun e w' => e = .returned (.tuple #[.string (S (M.frameP l)), .int .i64 0]) ∧ Below w.heap.size w w' := by
 have d1 : decide (16384 < (l.length : Int)) = false := by simp; omega
 obtain ⟨i0, hi, hz0, hz1, hz2⟩ := info_parts info8;have c1 : ∀ W, Calls Tryz.prog 146 #[.string (S l)] W fun e w' => e = .returned (.int .u32 (M.sumP l)) ∧ Below W.heap.size W w' := fun W => (Jd5 l (by omega) W).mono fun e w' ⟨he, hw⟩ => ⟨he, hw ▸ Below.refl _ _⟩
 have c2 := fun W => Jdi (M.sumP l) (M.sumP_lt l) W
 have hq : (M.big 4 (M.sumP l)).length = 4 := M.big_length 4 (M.sumP l);have hfr : M.frameP l = [2] ++ [UInt8.ofNat (l.length / 256), UInt8.ofNat (l.length % 256)] ++ l ++ M.big 4 (M.sumP l) ++ [3] := rfl;generalize M.big 4 (M.sumP l) = q at *;generalize M.frameP l = f at *;generalize M.sumP l = sm at *;have C1 := Qh c1;have C2 := Qh c2;have HF := Qh hfr;have HQ := Qh hq;have hq4 : q.length ≤ 4 := by omega
 clear c1 c2 hfr hq;have b0 : Lib.OwnBuf w.heap.size 5 (.slice none 0 0) 0 [] w w := ⟨World.ownsRowF_nil _ _ _ _, Below.refl _ _, Nat.le_refl _⟩
 have HB0 := Qh b0
 have h3 : u8s [2, UInt8.ofNat (l.length / 256), UInt8.ofNat (l.length % 256)] = [.int .u8 2, .int .u8 ((l.length : Int) / 256), .int .u8 ((l.length : Int) % 256)] := by
  have e1 : (UInt8.ofNat (l.length / 256)).toNat = l.length / 256 := by rw [UInt8.toNat_ofNat']; exact Nat.mod_eq_of_lt (by omega)
  have e2 : (UInt8.ofNat (l.length % 256)).toNat = l.length % 256 := by rw [UInt8.toNat_ofNat']; exact Nat.mod_eq_of_lt (by omega)
  simp [u8s, e1, e2]
 have H3 := Qh h3;clear h3;clear b0;go_enter Tryz.func101, Tryz.ntmps101
 go_wp2_with (first
  | (at_builtin; refine Jel rfl _ _ 116 rfl w.heap.size 5 i0 Tryz.underlying116 hi hz0 hz1 hz2 (.slice none 0 0) 0 [] rfl w w _ _ _ HB0.o rfl (by omega) ?_; intro v1 w1 hb1; have HB1 := Qh (show Lib.OwnBuf w.heap.size 5 v1 3 (u8s [2, UInt8.ofNat (l.length / 256), UInt8.ofNat (l.length % 256)]) w w1 from by rw [H3.o]; exact hb1); clear hb1)
  | (at_builtin; refine Lib.wpList_append_text rfl _ _ 116 9 rfl w.heap.size 5 i0 Tryz.underlying116 Tryz.underlying9 hi hz0 hz1 hz2 _ 3 _ rfl w HB1.o (S l) rfl (by rw [Jfw]; omega) ?_; intro v2 w2 hb2; have HB2 := Qh (show Lib.OwnBuf w.heap.size 5 v2 (3 + l.length) (u8s ([2, UInt8.ofNat (l.length / 256), UInt8.ofNat (l.length % 256)] ++ l)) w w2 from by rw [Jgg, ← Jkf l, ← Jfw l]; exact hb2); clear hb2))
 with_reducible refine (C1.o _).mono ?_
 rintro e w3 ⟨rfl, hb3⟩;have HB3 := Qh (Jg6 HB2.o hb3);clear hb3;go_wp2_with fail;with_reducible refine (C2.o _).mono ?_
 rintro e w4 ⟨rfl, hb4⟩;have HB4 := Qh (Jg6 HB3.o hb4);clear hb4
 go_wp2_with (first
  | (at_builtin; refine Lib.wpList_append_text rfl _ _ 116 9 rfl w.heap.size 5 i0 Tryz.underlying116 Tryz.underlying9 hi hz0 hz1 hz2 _ (3 + l.length) _ rfl w HB4.o (S q) rfl (by rw [Jfw]; omega) ?_; intro v5 w5 hb5; have HB5 := Qh (show Lib.OwnBuf w.heap.size 5 v5 (3 + l.length + q.length) (u8s ([2, UInt8.ofNat (l.length / 256), UInt8.ofNat (l.length % 256)] ++ l ++ q)) w w5 from by rw [Jgg, ← Jkf q, ← Jfw q]; exact hb5); clear hb5)
  | (at_builtin; go_loud (refine Lib.wpList_append_byte rfl _ _ 116 rfl w.heap.size 5 i0 Tryz.underlying116 hi hz0 hz1 hz2 v5 (3 + l.length + q.length) _ rfl w _ _ HB5.o rfl (by omega) ?_; intro v6 w6 hb6; have HB6 := Qh (show Lib.OwnBuf w.heap.size 5 v6 (3 + l.length + q.length + 1) (u8s ([2, UInt8.ofNat (l.length / 256), UInt8.ofNat (l.length % 256)] ++ l ++ q ++ [3])) w w6 from by rw [Jgg]; exact hb6); clear hb6; have hcv := Jn4 (P := Tryz.prog) ([2, UInt8.ofNat (l.length / 256), UInt8.ofNat (l.length % 256)] ++ l ++ q ++ [3]) (by simp only [List.length_append, List.length_cons, List.length_nil] <;> omega) (by omega) HB6.o 116 9 Tryz.underlying116 Tryz.underlying5 Tryz.underlying9)))
 go_ret2
 refine ⟨ret_fe ?_, HB6.o.2.1⟩;rw [HF.o];simp
end
section
open Go Go.RowKit
attribute [local go_sem ↓] run_index_S
attribute [local go_sem] S_append S_extract
def M.wh (s : List UInt8) (e : Nat) : List (List UInt8) × Nat :=
 match h : M.next s e with
 | none => ([], e)
 | some (p, z) => (p :: (M.wh s z).1, (M.wh s z).2)
termination_by s.length - e
decreasing_by
 have := M.next_bounds h;omega
theorem M.wh_none {s : List UInt8} {e : Nat} (h : M.next s e = none) : M.wh s e = ([], e) := by
 rw [M.wh];split
 ·rfl
 ·rename_i p z h'
  rw [h] at h'; simp at h'
theorem M.wh_some {s p : List UInt8} {e z : Nat} (h : M.next s e = some (p, z)) : M.wh s e = (p :: (M.wh s z).1, (M.wh s z).2) := by
 rw [M.wh];split
 ·rename_i h'
  rw [h] at h'; simp at h'
 ·rename_i p' z' h'
  rw [h] at h';simp only [Option.some.injEq, Prod.mk.injEq] at h';rw [← h'.1, ← h'.2]
def txs (ps : List (List UInt8)) : List Value := ps.map fun p => Value.string (S p)
theorem infoS : (Tryz.prog.info? 9).map (fun i => (i.zero, i.size, i.bytes)) = some (some (.string ByteArray.empty), 1, 16) := by kernel_rfl
theorem Jg7 {B : Nat} {e : TypeId} {v : Value} {n : Nat} {xs : List Value} {w w' : World} (h : w.ownsRow B e 1 v n xs) (hb : Below w.heap.size w w') : w'.ownsRow B e 1 v n xs := by
 refine ⟨h.1, ?_⟩;rcases h.2 with hc | ⟨g, cap, cur, rfl, hBg, hgg, rest⟩
 ·exact .inl hc
 ·exact .inr ⟨g, cap, cur, rfl, hBg, by rw [hb.block g (Array.getElem?_eq_some_iff.1 hgg).1]; exact hgg, rest⟩
theorem Jcn (l : List UInt8) (hl : l.length ≤ 1000000) (w : World) :
  Calls Tryz.prog 88 #[.string (S l)] w fun e w' => ∃ v, e = .returned (.tuple #[v, .int .i64 ((M.wh l 0).2 : Nat)]) ∧ w'.ownsRow w.heap.size 9 1 v (M.wh l 0).1.length (txs (M.wh l 0).1) ∧ Below w.heap.size w w' := by
 obtain ⟨i0, hi, hz0, hz1, hz2⟩ := info_parts infoS;go_enter Tryz.func88, Tryz.ntmps88;go_wp2_with fail;go_loopw [4, 5] (fun v i wr => ∃ (ps : List (List UInt8)) (z : Nat) (ao : Option Addr) (cv : Nat), v = .slice ao ps.length cv ∧ i = .int .i64 z ∧ 8 * ps.length ≤ z ∧ z ≤ l.length ∧ M.wh l 0 = (ps ++ (M.wh l z).1, (M.wh l z).2) ∧ wr.ownsRow w.heap.size 9 1 v ps.length (txs ps) ∧ Below w.heap.size w wr) (fun _ i _ => l.length - (intOf i).toNat)
 case atStart => exact ⟨[], 0, none, 0, rfl, rfl, by simp, by omega, by simp, World.ownsRow_nil _ _ _ _, Below.refl _ _⟩
 case round =>
  rename_i wr
  obtain ⟨ps, z, ao, cv, rfl, rfl, h8, hzl, hwh, hown, hb⟩ := hrel;have HW := Qh hwh;have HO := Qh hown;have hbs := hb.size;clear hwh hown;by_cases hz : z < l.length
  ·have d1 : decide ((z : Int) < (l.length : Int)) = true := by simp; omega
   have cn := fun W => Jjq l (by omega) (z : Int) W
   rw [M.nextI_nat] at cn;cases hn : M.next l z with
   | none =>
    rw [hn] at cn;simp only [triF] at cn;have CN := Qh cn;have HE := Qh (show M.wh l 0 = (ps, z) from by rw [HW.o, M.wh_none hn]; simp);clear cn hn;go_wp2_with fail;with_reducible refine (CN.o _).mono ?_
    rintro e w1 ⟨rfl, hb1⟩;go_wp2_with fail;go_ret2
    refine ⟨_, by rw [HE.o]; rfl, ?_, Jaa hb hb1⟩;rw [HE.o];exact Jg7 HO.o hb1
   | some r =>
    obtain ⟨p, z2⟩ := r;have hbd := M.next_bounds hn;rw [hn] at cn;simp only [triF] at cn;have CN := Qh cn;have HE := Qh (show M.wh l 0 = ((ps ++ [p]) ++ (M.wh l z2).1, (M.wh l z2).2) from by rw [HW.o, M.wh_some hn]; simp);have q1 := hbd.2.1;have q2 := hbd.2.2.1;clear cn hn hbd;go_wp2_with fail;with_reducible refine (CN.o _).mono ?_
    rintro e w1 ⟨rfl, hb1⟩;have hown1 := Jg7 HO.o hb1;have HB1 := Qh (Jaa hb hb1);have hsz1 := HB1.o.size;clear hb1;go_wp2_with (at_builtin; refine wpList_append_own _ rfl _ _ 74 rfl w.heap.size 9 i0 (.string ByteArray.empty) 1 16 Tryz.underlying74 hi hz0 hz1 hz2 rfl (by decide) (.slice ao ps.length cv) ps.length (txs ps) rfl (hown1.alloc _) ⟨w1.heap.size, 0, none⟩ 1 1 [.string (S p)] rfl rfl (cell_one_new _ _ _) (fun x hx => by simp at hx; subst hx; rfl) (by unfold maxLen; omega) (by omega) (by simp; omega) ?_; intro v' w3 hown' hgrow3 hnil3)
    go_roundw
    case rel =>
     obtain ⟨g3, cap3, hv3⟩ : ∃ g3 cap3, v' = .slice (some ⟨g3, 0, none⟩) (ps.length + 1) cap3 := by
      rcases hown'.2 with ⟨_, h⟩ | ⟨g3, cap3, _, h, _⟩
      ·omega
      ·exact ⟨g3, cap3, h⟩
     exact ⟨ps ++ [p], z2, some ⟨g3, 0, none⟩, cap3, by rw [hv3]; simp, rfl, by simp; omega, q2, HE.o, by rw [txs, List.map_append, List.length_append]; exact hown', (HB1.o.alloc hsz1 _).grown hgrow3 (by simp; omega) (fun q hq => (hown1.lt q hq).1)⟩
    case measure => simp [intOf]; omega
  ·have d1 : decide ((z : Int) < (l.length : Int)) = false := by simp; omega
   have HE := Qh (show M.wh l 0 = (ps, z) from by rw [HW.o, M.wh_none (M.next_no (fun h => by have := h.room; omega))]; simp);go_wp2_with fail;go_ret2
   refine ⟨_, by rw [HE.o]; rfl, ?_, hb⟩;rw [HE.o];exact HO.o
end
section
open Go Go.RowKit Go.Shelf
attribute [local go_sem ↓] run_index_S
attribute [local go_sem] S_append S_extract
attribute [local go_sem] Oper.semAt_some
abbrev encF (x : List UInt8 × Nat) : Array Value := #[.string (S x.1), .int .i64 (x.2 : Nat)]
def M.runs (s : List UInt8) (e : Nat) : List (List UInt8 × Nat) :=
 match h : M.next s e with
 | none => []
 | some (p, z) => (p, z) :: M.runs s z
termination_by s.length - e
decreasing_by
 have := M.next_bounds h;omega
theorem M.runs_none {s : List UInt8} {e : Nat} (h : M.next s e = none) : M.runs s e = [] := by
 rw [M.runs];split
 ·rfl
 ·rename_i p z h'
  rw [h] at h'; simp at h'
theorem M.runs_some {s p : List UInt8} {e z : Nat} (h : M.next s e = some (p, z)) : M.runs s e = (p, z) :: M.runs s z := by
 rw [M.runs];split
 ·rename_i h'
  rw [h] at h'; simp at h'
 ·rename_i p' z' h'
  rw [h] at h';simp only [Option.some.injEq, Prod.mk.injEq] at h';rw [← h'.1, ← h'.2]
theorem Jej {w w' : World} (h : Below w.heap.size w w') : w.grownBy w' none :=
 ⟨h.os, h.tape, h.output, h.size, fun k hk _ => h.block k hk⟩
def KpB (b : Nat) (W W' : World) : Prop := W'.cell? ⟨b, 0, none⟩ = W.cell? ⟨b, 0, none⟩ ∧ W.heap.size ≤ W'.heap.size
theorem kpB_t {b : Nat} {A B C : World} (h : KpB b A B) (k : KpB b B C) : KpB b A C := ⟨k.1.trans h.1, Nat.le_trans h.2 k.2⟩
theorem kpB_b {b : Nat} {w : World} (hb : b < w.heap.size) (W : World) (l : Nat) (o o' : Obj) (hl : w.heap.size ≤ l) (h : W.heap[l]? = some o) (_ : o.isCells = false) (_ : o.isWalk = false) : KpB b W (W.putObj l o') :=
 ⟨World.cell?_of_block ((grownBy_putObj' W l o').block b (by have := (Array.getElem?_eq_some_iff.1 h).1; omega) (by simp; omega)), (grownBy_putObj' W l o').size⟩
def Jfx (L : Nat) (nx ok : Value) : Nat := match ok with
 | .bool true => L + 1 - (intOf nx).toNat
 | _ => 0
def frV (r : Option (List UInt8 × Nat)) : Value × Value × Value := match r with
 | some (p, e) => (.string (S p), .int .i64 e, .bool true)
 | none => (.string (S []), .int .i64 0, .bool false)
theorem Jib (r : Option (List UInt8 × Nat)) : triF r = .tuple #[(frV r).1, (frV r).2.1, (frV r).2.2] := by
 cases r with
 | none => rfl
 | some q => rfl
theorem Jn5 (l : List UInt8) (z : Nat) (hz : z ≤ l.length) : Jfx l.length (frV (M.next l z)).2.1 (frV (M.next l z)).2.2 < l.length + 1 - z := by
 cases h : M.next l z with
 | none => simp only [frV, Jfx]; omega
 | some r =>
  obtain ⟨p, e⟩ := r;have hb := M.next_bounds h;simp only [frV, Jfx, intOf];omega
def StepE (l : List UInt8) (J : List (List UInt8 × Nat) → World → Prop) (b n₀ : Nat) (p nx ok : Value) (wr : World) : Prop :=
 ∃ (pre : List (List UInt8 × Nat)) (z : Nat), p = (frV (M.next l z)).1 ∧ nx = (frV (M.next l z)).2.1 ∧ ok = (frV (M.next l z)).2.2 ∧ z ≤ l.length ∧ J pre wr ∧ 8 * pre.length ≤ z ∧ pre ++ M.runs l z = M.runs l 0 ∧ wr.cell? ⟨b, 0, none⟩ = some (.string (S l)) ∧ n₀ ≤ wr.heap.size
end
section
theorem Jfy (a b : List UInt8) (i : Nat) (h : a.length ≤ i) : (a ++ b).getD i 0 = b.getD (i - a.length) 0 := by
 simp [List.getD, List.getElem?_append_right h]
theorem Jk3 (s : List UInt8) (a b i : Nat) (h : a + i < b) : (Jah s a b).getD i 0 = s.getD (a + i) 0 := by
 simp only [Jah, List.getD, List.getElem?_take, List.getElem?_drop];rw [if_pos (by omega)]
theorem Jjs (s : List UInt8) (a b i j : Nat) (h : a + j ≤ b) : Jah (Jah s a b) i j = Jah s (a + i) (a + j) := by
 simp only [Jah, List.drop_take, List.take_take, List.drop_drop];congr 1
 omega
theorem Jce (s : List UInt8) (a b c : Nat) (h : a ≤ b) (k : b ≤ c) : Jah s a c = Jah s a b ++ Jah s b c := by
 simp only [Jah];rw [show c - a = (b - a) + (c - b) from by omega, List.take_add, List.drop_drop, show a + (b - a) = b from by omega]
theorem Jeq (u p v : List UInt8) : Jah (u ++ p ++ v) u.length (u.length + p.length) = p := by
 simp [Jah]
theorem Jk4 (u v : List UInt8) (i j : Nat) (h : j ≤ u.length) : Jah (u ++ v) i j = Jah u i j := by
 unfold Jah;by_cases hij : i ≤ u.length
 ·rw [List.drop_append_of_le_length hij, List.take_append_of_le_length (by simp; omega)]
 ·rw [show j - i = 0 from by omega]; simp
namespace M
theorem frame_getD0 (p : List UInt8) : (frameP p).getD 0 0 = 2 := rfl
theorem frame_getD1 (p : List UInt8) : (frameP p).getD 1 0 = UInt8.ofNat (p.length / 256) := rfl
theorem frame_getD2 (p : List UInt8) : (frameP p).getD 2 0 = UInt8.ofNat (p.length % 256) := rfl
theorem ofNat_toNat (n : Nat) (h : n < 256) : (UInt8.ofNat n).toNat = n := by
 rw [UInt8.toNat_ofNat']; exact Nat.mod_eq_of_lt (by omega)
theorem frame_many (p : List UInt8) (hp : p.length ≤ 16384) : many (frameP p) 0 = p.length := by
 unfold many;rw [frame_getD1, frame_getD2, ofNat_toNat _ (by omega), ofNat_toNat _ (by omega)];omega
theorem frame_split (p : List UInt8) : frameP p = ([2] ++ [UInt8.ofNat (p.length / 256), UInt8.ofNat (p.length % 256)]) ++ p ++ (big 4 (sumP p) ++ [3]) := by
 simp [frameP]
theorem frame_payload (p : List UInt8) : Jah (frameP p) 3 (p.length + 3) = p := by
 rw [frame_split];have := Jeq ([2] ++ [UInt8.ofNat (p.length / 256), UInt8.ofNat (p.length % 256)]) p (big 4 (sumP p) ++ [3]);simpa [Nat.add_comm] using this
theorem frame_sum (p : List UInt8) : Jah (frameP p) (p.length + 3) (p.length + 7) = big 4 (sumP p) := by
 have := Jeq ([2] ++ [UInt8.ofNat (p.length / 256), UInt8.ofNat (p.length % 256)] ++ p) (big 4 (sumP p)) [3];rw [big4_length] at this;have e : ([2] ++ [UInt8.ofNat (p.length / 256), UInt8.ofNat (p.length % 256)] ++ p).length = p.length + 3 := by simp
 rw [e] at this;exact this
theorem frame_last (p : List UInt8) : (frameP p).getD (p.length + 7) 0 = 3 := by
 unfold frameP;rw [Jfy _ _ _ (by simp [big4_length])];simp [big4_length]
theorem stands_of {s p : List UInt8} {a : Nat} (hp : p.length ≤ 16384) (hl : a + p.length + 8 ≤ s.length) (he : Jah s a (a + p.length + 8) = frameP p) : Stands s a ∧ next s a = some (p, a + p.length + 8) := by
 have g : ∀ i, i < p.length + 8 → s.getD (a + i) 0 = (frameP p).getD i 0 := fun i hi => by
  rw [← he, Jk3 _ _ _ _ (by omega)]
 have q : ∀ i j, j ≤ p.length + 8 → Jah s (a + i) (a + j) = Jah (frameP p) i j := fun i j hj => by
  rw [← he, Jjs _ _ _ _ _ (by omega)]
 have hm : many s a = p.length := by
  have := frame_many p hp;unfold many at this ⊢;rw [g 1 (by omega), g 2 (by omega)];simpa using this
 have hpay : Jah s (a + 3) (a + many s a + 3) = p := by
  rw [hm, show a + p.length + 3 = a + (p.length + 3) from by omega, q 3 (p.length + 3) (by omega), frame_payload]
 have hs : Stands s a := by
  refine ⟨by omega, ?_, by omega, by omega, ?_, ?_⟩
  ·have := g 0 (by omega); rw [Nat.add_zero] at this; rw [this]; exact frame_getD0 p
  ·rw [hm, show a + p.length + 7 = a + (p.length + 7) from by omega, g _ (by omega), frame_last]
  ·rw [hpay, hm, show a + p.length + 3 = a + (p.length + 3) from by omega, show a + p.length + 7 = a + (p.length + 7) from by omega, q _ _ (by omega), frame_sum]
 exact ⟨hs, by rw [next_yes hs, hpay, hm]⟩
theorem of_stands {s : List UInt8} {a : Nat} (h : Stands s a) : Jah s a (a + many s a + 8) = frameP (Jah s (a + 3) (a + many s a + 3)) := by
 have hr := h.room;have hf := h.fits;have hlen : (Jah s (a + 3) (a + many s a + 3)).length = many s a := by rw [Jbh _ _ _ (by omega) (by omega)]; omega
 have h1 := (s.getD (a + 1) 0).toNat_lt;have h2 := (s.getD (a + 2) 0).toNat_lt
 have e1 : UInt8.ofNat (many s a / 256) = s.getD (a + 1) 0 := by
  rw [show many s a / 256 = (s.getD (a + 1) 0).toNat from by unfold many; omega, UInt8.ofNat_toNat]
 have e2 : UInt8.ofNat (many s a % 256) = s.getD (a + 2) 0 := by
  rw [show many s a % 256 = (s.getD (a + 2) 0).toNat from by unfold many; omega, UInt8.ofNat_toNat]
 unfold frameP;rw [hlen, ← h.sum, e1, e2];rw [Jce s a (a + 1) _ (by omega) (by omega), Jce s (a + 1) (a + 2) _ (by omega) (by omega), Jce s (a + 2) (a + 3) _ (by omega) (by omega), Jce s (a + 3) (a + many s a + 3) (a + many s a + 8) (by omega) (by omega), Jce s (a + many s a + 3) (a + many s a + 7) (a + many s a + 8) (by omega) (by omega)];rw [Jbj s a (by omega), Jbj s (a + 1) (by omega), Jbj s (a + 2) (by omega), show a + many s a + 8 = a + many s a + 7 + 1 from by omega, Jbj s (a + many s a + 7) (by omega), h.two, h.three];simp
theorem next_at (u p v : List UInt8) (hp : p.length ≤ 16384) : Stands (u ++ frameP p ++ v) u.length ∧ next (u ++ frameP p ++ v) u.length = some (p, u.length + p.length + 8) := by
 refine stands_of hp (by simp [frameP_length]; omega) ?_;have := Jeq u (frameP p) v;rwa [frameP_length, ← Nat.add_assoc] at this
end M
end
end Go.Proofs.YtmammmjmipgmoaaGreatDoor
