/- Texts of lower layers, as one. -/
import Derived.Test.YtmammmjmipgmoaaGreatDoorZB
import Derived.Test.YtmammmjmipgmoaaGreatDoorZA
import Derived.Deep.QuietTactic
import Derived.BigQuiet
import Derived.Lib.QuietBelow
import Derived.Test.YtmammmjmipgmoaaGreatDoorShelf
import Derived.Lib.IndexLaws
import Derived.Lib.BufSteps
import Derived.Maps.AppendAt
import Derived.RangeFuncNested
import Derived.RangeFuncBound
import Derived.RangeFuncCalls
import Derived.RangeFuncLeaves
import Derived.Shelf.Abstract
import Derived.Shelf.RegionOpen
import Derived.OwnWalkIn
import Derived.TacticsInMore
import Derived.LoopNIn
import Derived.LoopIn
import Derived.RangeFuncBox
import Derived.RangeFuncFrom
import Derived.Maps.OwnIn
import Derived.OrdersHeld
import Derived.Deep.RegionHeld
/- Plain mathematics of layer 4: a payload's frame, and where one stands. No Go here. -/
namespace Go.Proofs.YtmammmjmipgmoaaGreatDoor.M
set_option linter.unusedVariables false

/-- P4.1. -/
def frameP (p : List UInt8) : List UInt8 := [2] ++ [UInt8.ofNat (p.length / 256), UInt8.ofNat (p.length % 256)] ++ p ++ big 4 (sumP p) ++ [3]
theorem frameP_length (p : List UInt8) : (frameP p).length = p.length + 8 := by
  simp [frameP, big_length]

/-- P4.2: how long the payload is, as a frame at a tells. -/
def many (s : List UInt8) (a : Nat) : Nat := (s.getD (a + 1) 0).toNat * 256 + (s.getD (a + 2) 0).toNat
/-- Does a frame stand at a? -/
structure Stands (s : List UInt8) (a : Nat) : Prop where
  room : a + 8 ≤ s.length
  two : s.getD a 0 = 2
  most : many s a ≤ 16384
  fits : a + many s a + 8 ≤ s.length
  three : s.getD (a + many s a + 7) 0 = 3
  sum : piece s (a + many s a + 3) (a + many s a + 7) = big 4 (sumP (piece s (a + 3) (a + many s a + 3)))
instance (s : List UInt8) (a : Nat) : Decidable (Stands s a) :=
  decidable_of_iff (a + 8 ≤ s.length ∧ s.getD a 0 = 2 ∧ many s a ≤ 16384 ∧ a + many s a + 8 ≤ s.length ∧ s.getD (a + many s a + 7) 0 = 3 ∧ piece s (a + many s a + 3) (a + many s a + 7) = big 4 (sumP (piece s (a + 3) (a + many s a + 3))))
    ⟨fun ⟨h1, h2, h3, h4, h5, h6⟩ => ⟨h1, h2, h3, h4, h5, h6⟩, fun h => ⟨h.room, h.two, h.most, h.fits, h.three, h.sum⟩⟩
/-- P4.2 Next. -/
def next (s : List UInt8) (a : Nat) : Option (List UInt8 × Nat) := if Stands s a then some (piece s (a + 3) (a + many s a + 3), a + many s a + 8) else none
def nextI (s : List UInt8) (at_ : Int) : Option (List UInt8 × Nat) := if 0 ≤ at_ then next s at_.toNat else none
theorem nextI_nat (s : List UInt8) (a : Nat) : nextI s a = next s a := by simp [nextI]
theorem nextI_neg (s : List UInt8) (at_ : Int) (h : at_ < 0) : nextI s at_ = none := by rw [nextI, if_neg (by omega)]
theorem next_no {s : List UInt8} {a : Nat} (h : ¬ Stands s a) : next s a = none := by rw [next, if_neg h]
theorem next_yes {s : List UInt8} {a : Nat} (h : Stands s a) : next s a = some (piece s (a + 3) (a + many s a + 3), a + many s a + 8) := by rw [next, if_pos h]
theorem next_bounds {s p : List UInt8} {a e : Nat} (h : next s a = some (p, e)) : Stands s a ∧ a + 8 ≤ e ∧ e ≤ s.length ∧ e = a + p.length + 8 ∧ p.length ≤ 16384 ∧ p = piece s (a + 3) (a + many s a + 3) := by
  unfold next at h
  split at h
  · rename_i hs
    simp only [Option.some.injEq, Prod.mk.injEq] at h
    obtain ⟨h1, h2⟩ := h
    have hf := hs.fits
    have hm := hs.most
    have hl : p.length = many s a := by rw [← h1, piece_length _ _ _ (by omega) (by omega)]; omega
    exact ⟨hs, by omega, by omega, by omega, by omega, h1.symm⟩
  · simp at h

end Go.Proofs.YtmammmjmipgmoaaGreatDoor.M

/- Layer 4: the program's functions (frames), each by a contract: Frame, Next. -/
namespace Go.Proofs.YtmammmjmipgmoaaGreatDoor
set_option linter.unusedVariables false
open Go Go.RowKit
attribute [local go_sem ↓] run_index_S
attribute [local go_sem] S_append S_extract

theorem ret_fe {a b : List UInt8} {n : Int} (h : a = b) : Ending.returned (.tuple #[.string ⟨a.toArray⟩, .int .i64 n]) = .returned (.tuple #[.string ⟨b.toArray⟩, .int .i64 n]) := by rw [h]

theorem take_one_at (l : List UInt8) (a : Nat) (h : a < l.length) : (l.drop a).take 1 = [l.getD a 0] := by
  rw [List.drop_eq_getElem_cons h, List.take_succ_cons, List.take_zero]
  simp [List.getD, List.getElem?_eq_getElem h]
theorem piece_one_at (l : List UInt8) (a : Nat) (h : a < l.length) : piece l a (a + 1) = [l.getD a 0] := by
  rw [piece, show a + 1 - a = 1 from by omega, take_one_at l a h]
theorem piece_drop (l : List UInt8) (a i j : Nat) : piece (l.drop a) i j = piece l (a + i) (a + j) := by
  unfold piece
  rw [List.drop_drop, show a + j - (a + i) = j - i from by omega]
theorem B_off (l : List UInt8) (a i : Nat) : B (l.drop a) i = B l (a + i) := by
  simp [B, List.getD]

set_option maxHeartbeats 400000 in
theorem frame_ok (l : List UInt8) (hl : l.length ≤ 16384) (w : World) :
    Calls Tryz.prog 68 #[.string (S l)] w fun e w' => e = .returned (.tuple #[.string (S (M.frameP l)), .int .i64 0]) ∧ Below w.heap.size w w' := by
  have d1 : decide (16384 < (l.length : Int)) = false := by simp; omega
  have c1 := fun W => sum0_any l (by omega) W
  have c2 := fun W => bytes_any (M.sumP l) (M.sumP_lt l) W
  have ktwo := @run_string_two Tryz.prog 116 9 5 Tryz.underlying116 Tryz.underlying5 Tryz.underlying9
  have hb : (M.big 4 (M.sumP l)).length ≤ 4 := Nat.le_of_eq (M.big_length 4 (M.sumP l))
  have hfr : M.frameP l = [2] ++ [UInt8.ofNat (l.length / 256), UInt8.ofNat (l.length % 256)] ++ l ++ M.big 4 (M.sumP l) ++ [3] := rfl
  generalize M.big 4 (M.sumP l) = q at *
  generalize M.frameP l = f at *
  have C1 := Lib.hid c1
  have C2 := Lib.hid c2
  have HF := Lib.hid hfr
  clear c1 c2 hfr
  go_enter Tryz.func68, Tryz.ntmps68
  go_wp2_with fail
  with_reducible refine (C1.out _).mono ?_
  rintro e w1 ⟨rfl, hb1⟩
  go_wp2_with fail
  with_reducible refine (C2.out _).mono ?_
  rintro e w2 ⟨rfl, hb2⟩
  go_wp2_with fail
  go_ret2
  refine ⟨ret_fe ?_, below_step (below_step ((Below.refl _ _).alloc (Nat.le_refl _) _) hb1) hb2⟩
  rw [HF.out]
  simp

set_option maxHeartbeats 1000000 in
set_option maxRecDepth 100000 in
theorem next_neg (l : List UInt8) (at_ : Int) (h : at_ < 0) (w : World) :
    Calls Tryz.prog 151 #[.string (S l), .int .i64 at_] w fun e w' => e = .returned (.tuple #[.string ⟨#[]⟩, .int .i64 0, .bool false]) ∧ w = w' := by
  go_enter Tryz.func151, Tryz.ntmps151
  go_wp2_with fail
  go_ret3
  exact ⟨rfl, rfl⟩

set_option maxHeartbeats 1000000 in
set_option maxRecDepth 100000 in
theorem next_far (l : List UInt8) (at_ : Int) (h0 : 0 ≤ at_) (h : (l.length : Int) ≤ at_) (w : World) :
    Calls Tryz.prog 151 #[.string (S l), .int .i64 at_] w fun e w' => e = .returned (.tuple #[.string ⟨#[]⟩, .int .i64 0, .bool false]) ∧ w = w' := by
  go_enter Tryz.func151, Tryz.ntmps151
  go_wp2_with fail
  go_ret3
  exact ⟨rfl, rfl⟩

set_option maxHeartbeats 1000000 in
set_option maxRecDepth 100000 in
theorem next_short (l : List UInt8) (hl : l.length ≤ 9223372036854775807) (a : Nat) (h : a < l.length) (h8 : l.length < a + 8) (w : World) :
    Calls Tryz.prog 151 #[.string (S l), .int .i64 a] w fun e w' => e = .returned (.tuple #[.string ⟨#[]⟩, .int .i64 0, .bool false]) ∧ w = w' := by
  have d1 : decide ((l.length : Int) ≤ (a : Int)) = false := by simp; omega
  have hs0 := run_piece_from (P := Tryz.prog) 9 Tryz.underlying9 l (a : Int) a rfl (by omega)
  have hrl : (l.drop a).length ≤ 7 := by rw [List.length_drop]; omega
  generalize l.drop a = r at *
  have d2 : decide ((r.length : Int) < 8) = true := by simp; omega
  go_enter Tryz.func151, Tryz.ntmps151
  go_wp2_with fail
  go_ret3
  exact ⟨rfl, rfl⟩

set_option maxHeartbeats 1000000 in
set_option maxRecDepth 100000 in
theorem next_two (l : List UInt8) (hl : l.length ≤ 9223372036854775807) (a : Nat) (h8 : a + 8 ≤ l.length) (h2 : ¬ l.getD a 0 = 2) (w : World) :
    Calls Tryz.prog 151 #[.string (S l), .int .i64 a] w fun e w' => e = .returned (.tuple #[.string ⟨#[]⟩, .int .i64 0, .bool false]) ∧ w = w' := by
  have d1 : decide ((l.length : Int) ≤ (a : Int)) = false := by simp; omega
  have hs0 := run_piece_from (P := Tryz.prog) 9 Tryz.underlying9 l (a : Int) a rfl (by omega)
  have hrl : 8 ≤ (l.drop a).length := by rw [List.length_drop]; omega
  have hr1 : (l.drop a).take 1 = [l.getD a 0] := take_one_at l a (by omega)
  have hs1 := run_piece_to (P := Tryz.prog) 9 Tryz.underlying9 (l.drop a) 1 1 rfl (by omega)
  rw [hr1] at hs1
  generalize l.drop a = r at *
  generalize l.getD a 0 = x at *
  have d2 : decide ((r.length : Int) < 8) = false := by simp; omega
  have hx : (x == 2) = false := by simpa using h2
  have HX := Lib.hid hr1
  clear hr1
  go_enter Tryz.func151, Tryz.ntmps151
  go_wp2_with fail
  go_ret3
  exact ⟨rfl, rfl⟩

set_option maxHeartbeats 2000000 in
set_option maxRecDepth 100000 in
theorem next_most (l : List UInt8) (hl : l.length ≤ 9223372036854775807) (a : Nat) (h8 : a + 8 ≤ l.length) (h2 : l.getD a 0 = 2) (hm : 16384 < M.many l a) (w : World) :
    Calls Tryz.prog 151 #[.string (S l), .int .i64 a] w fun e w' => e = .returned (.tuple #[.string ⟨#[]⟩, .int .i64 0, .bool false]) ∧ Below w.heap.size w w' := by
  have d1 : decide ((l.length : Int) ≤ (a : Int)) = false := by simp; omega
  have hs0 := run_piece_from (P := Tryz.prog) 9 Tryz.underlying9 l (a : Int) a rfl (by omega)
  have hrl : (l.drop a).length + a = l.length := by rw [List.length_drop]; omega
  have hs1 := run_piece_to (P := Tryz.prog) 9 Tryz.underlying9 (l.drop a) 1 1 rfl (by omega)
  rw [take_one_at l a (by omega), h2] at hs1
  have b1 := B_range (l.drop a) 1
  have b2 := B_range (l.drop a) 2
  have hj : bits .or .i64 (B (l.drop a) 1 * 256) (B (l.drop a) 2) = ((M.many l a : Nat) : Int) := by
    rw [join8 _ _ b1.1 (by omega) b2.1 (by omega), B_off, B_off]
    unfold M.many B
    omega
  generalize M.many l a = m at *
  have d3 : decide (16384 < (m : Int)) = true := by simp; omega
  generalize l.drop a = r at *
  have d2 : decide ((r.length : Int) < 8) = false := by simp; omega
  go_enter Tryz.func151, Tryz.ntmps151
  go_wp2_with fail
  go_quiet (fail)
  go_wp2_with fail
  go_ret3
  exact ⟨rfl, below_drewN (Below.refl _ _) _⟩

set_option maxHeartbeats 2000000 in
set_option maxRecDepth 100000 in
theorem next_room (l : List UInt8) (hl : l.length ≤ 9223372036854775807) (a : Nat) (h8 : a + 8 ≤ l.length) (h2 : l.getD a 0 = 2) (hm : M.many l a ≤ 16384) (hf : l.length < a + M.many l a + 8) (w : World) :
    Calls Tryz.prog 151 #[.string (S l), .int .i64 a] w fun e w' => e = .returned (.tuple #[.string ⟨#[]⟩, .int .i64 0, .bool false]) ∧ Below w.heap.size w w' := by
  have d1 : decide ((l.length : Int) ≤ (a : Int)) = false := by simp; omega
  have hs0 := run_piece_from (P := Tryz.prog) 9 Tryz.underlying9 l (a : Int) a rfl (by omega)
  have hrl : (l.drop a).length + a = l.length := by rw [List.length_drop]; omega
  have hs1 := run_piece_to (P := Tryz.prog) 9 Tryz.underlying9 (l.drop a) 1 1 rfl (by omega)
  rw [take_one_at l a (by omega), h2] at hs1
  have b1 := B_range (l.drop a) 1
  have b2 := B_range (l.drop a) 2
  have hj : bits .or .i64 (B (l.drop a) 1 * 256) (B (l.drop a) 2) = ((M.many l a : Nat) : Int) := by
    rw [join8 _ _ b1.1 (by omega) b2.1 (by omega), B_off, B_off]
    unfold M.many B
    omega
  generalize M.many l a = m at *
  have d3 : decide (16384 < (m : Int)) = false := by simp; omega
  generalize l.drop a = r at *
  have d2 : decide ((r.length : Int) < 8) = false := by simp; omega
  have d4 : decide ((r.length : Int) < (m : Int) + 8) = true := by simp; omega
  go_enter Tryz.func151, Tryz.ntmps151
  go_wp2_with fail
  go_quiet (fail)
  go_wp2_with fail
  go_ret3
  exact ⟨rfl, below_drewN (Below.refl _ _) _⟩

set_option maxHeartbeats 2000000 in
set_option maxRecDepth 100000 in
theorem next_three (l : List UInt8) (hl : l.length ≤ 9223372036854775807) (a : Nat) (h8 : a + 8 ≤ l.length) (h2 : l.getD a 0 = 2) (hm : M.many l a ≤ 16384) (hf : a + M.many l a + 8 ≤ l.length) (h3 : ¬ l.getD (a + M.many l a + 7) 0 = 3) (w : World) :
    Calls Tryz.prog 151 #[.string (S l), .int .i64 a] w fun e w' => e = .returned (.tuple #[.string ⟨#[]⟩, .int .i64 0, .bool false]) ∧ Below w.heap.size w w' := by
  have d1 : decide ((l.length : Int) ≤ (a : Int)) = false := by simp; omega
  have hs0 := run_piece_from (P := Tryz.prog) 9 Tryz.underlying9 l (a : Int) a rfl (by omega)
  have hrl : (l.drop a).length + a = l.length := by rw [List.length_drop]; omega
  have hs1 := run_piece_to (P := Tryz.prog) 9 Tryz.underlying9 (l.drop a) 1 1 rfl (by omega)
  rw [take_one_at l a (by omega), h2] at hs1
  have b1 := B_range (l.drop a) 1
  have b2 := B_range (l.drop a) 2
  have hj : bits .or .i64 (B (l.drop a) 1 * 256) (B (l.drop a) 2) = ((M.many l a : Nat) : Int) := by
    rw [join8 _ _ b1.1 (by omega) b2.1 (by omega), B_off, B_off]
    unfold M.many B
    omega
  have hs2 := run_piece (P := Tryz.prog) 9 Tryz.underlying9 (l.drop a) ((M.many l a : Int) + 8 - 1) ((M.many l a : Int) + 8) (M.many l a + 7) (M.many l a + 8) (by omega) (by omega) (by omega) (by omega)
  rw [piece_drop, show a + (M.many l a + 8) = a + (M.many l a + 7) + 1 from by omega, piece_one_at l _ (by omega), show a + (M.many l a + 7) = a + M.many l a + 7 from by omega] at hs2
  generalize l.getD (a + M.many l a + 7) 0 = x at *
  have hx : (x == 3) = false := by simpa using h3
  generalize M.many l a = m at *
  have d3 : decide (16384 < (m : Int)) = false := by simp; omega
  generalize l.drop a = r at *
  have d2 : decide ((r.length : Int) < 8) = false := by simp; omega
  have d4 : decide ((r.length : Int) < (m : Int) + 8) = false := by simp; omega
  go_enter Tryz.func151, Tryz.ntmps151
  go_wp2_with fail
  go_quiet (fail)
  go_wp2_with fail
  go_ret3
  exact ⟨rfl, below_drewN (Below.refl _ _) _⟩

set_option maxHeartbeats 2000000 in
set_option maxRecDepth 100000 in
theorem next_sum (l : List UInt8) (hl : l.length ≤ 9223372036854775807) (a : Nat) (h8 : a + 8 ≤ l.length) (h2 : l.getD a 0 = 2) (hm : M.many l a ≤ 16384) (hf : a + M.many l a + 8 ≤ l.length) (h3 : l.getD (a + M.many l a + 7) 0 = 3) (hs : ¬ piece l (a + M.many l a + 3) (a + M.many l a + 7) = M.big 4 (M.sumP (piece l (a + 3) (a + M.many l a + 3)))) (w : World) :
    Calls Tryz.prog 151 #[.string (S l), .int .i64 a] w fun e w' => e = .returned (.tuple #[.string ⟨#[]⟩, .int .i64 0, .bool false]) ∧ Below w.heap.size w w' := by
  have d1 : decide ((l.length : Int) ≤ (a : Int)) = false := by simp; omega
  have hs0 := run_piece_from (P := Tryz.prog) 9 Tryz.underlying9 l (a : Int) a rfl (by omega)
  have hrl : (l.drop a).length + a = l.length := by rw [List.length_drop]; omega
  have hs1 := run_piece_to (P := Tryz.prog) 9 Tryz.underlying9 (l.drop a) 1 1 rfl (by omega)
  rw [take_one_at l a (by omega), h2] at hs1
  have b1 := B_range (l.drop a) 1
  have b2 := B_range (l.drop a) 2
  have hj : bits .or .i64 (B (l.drop a) 1 * 256) (B (l.drop a) 2) = ((M.many l a : Nat) : Int) := by
    rw [join8 _ _ b1.1 (by omega) b2.1 (by omega), B_off, B_off]
    unfold M.many B
    omega
  have hs2 := run_piece (P := Tryz.prog) 9 Tryz.underlying9 (l.drop a) ((M.many l a : Int) + 8 - 1) ((M.many l a : Int) + 8) (M.many l a + 7) (M.many l a + 8) (by omega) (by omega) (by omega) (by omega)
  rw [piece_drop, show a + (M.many l a + 8) = a + (M.many l a + 7) + 1 from by omega, piece_one_at l _ (by omega), show a + (M.many l a + 7) = a + M.many l a + 7 from by omega] at hs2
  rw [h3] at hs2
  have hs3 := run_piece (P := Tryz.prog) 9 Tryz.underlying9 (l.drop a) 3 (3 + (M.many l a : Int)) 3 (3 + M.many l a) (by omega) (by omega) (by omega) (by omega)
  rw [piece_drop, show a + (3 + M.many l a) = a + M.many l a + 3 from by omega] at hs3
  have hs4 := run_piece (P := Tryz.prog) 9 Tryz.underlying9 (l.drop a) (3 + (M.many l a : Int)) ((M.many l a : Int) + 8 - 1) (3 + M.many l a) (M.many l a + 7) (by omega) (by omega) (by omega) (by omega)
  rw [piece_drop, show a + (3 + M.many l a) = a + M.many l a + 3 from by omega, show a + (M.many l a + 7) = a + M.many l a + 7 from by omega] at hs4
  have hpl := piece_length l (a + 3) (a + M.many l a + 3) (by omega) (by omega)
  have c1 := fun W => sum0_any (piece l (a + 3) (a + M.many l a + 3)) (by omega) W
  have c2 := fun W => bytes_any (M.sumP (piece l (a + 3) (a + M.many l a + 3))) (M.sumP_lt _) W
  generalize piece l (a + 3) (a + M.many l a + 3) = p at *
  generalize M.sumP p = sp at *
  generalize M.big 4 sp = v at *
  generalize piece l (a + M.many l a + 3) (a + M.many l a + 7) = u at *
  generalize M.many l a = m at *
  have d3 : decide (16384 < (m : Int)) = false := by simp; omega
  generalize l.drop a = r at *
  have d2 : decide ((r.length : Int) < 8) = false := by simp; omega
  have d4 : decide ((r.length : Int) < (m : Int) + 8) = false := by simp; omega
  have C1 := Lib.hid c1
  have C2 := Lib.hid c2
  clear c1 c2
  have huv : (u == v) = false := by simpa using hs
  go_enter Tryz.func151, Tryz.ntmps151
  go_wp2_with fail
  go_quiet (fail)
  go_wp2_with fail
  refine wp_region_quiet_below (by kernel_rfl) (by kernel_rfl) ?_
  repeat (go_big_quiet_step ((first | (go_at_call 121; with_reducible exact Calls.regrown_of (C1.out _)) | (go_at_call 120; with_reducible exact Calls.regrown_of (C2.out _)))))
  refine wpQuiet_nil ?_
  intro _ hw1
  obtain ⟨⟨d, o⟩, hw1⟩ := hw1
  subst hw1
  go_wp2_with fail
  go_ret3
  exact ⟨rfl, below_step (below_drewN (Below.refl _ _) _) (below_regrown _ d o)⟩

set_option maxHeartbeats 2000000 in
set_option maxRecDepth 100000 in
theorem next_stands (l : List UInt8) (hl : l.length ≤ 9223372036854775807) (a : Nat) (h8 : a + 8 ≤ l.length) (h2 : l.getD a 0 = 2) (hm : M.many l a ≤ 16384) (hf : a + M.many l a + 8 ≤ l.length) (h3 : l.getD (a + M.many l a + 7) 0 = 3) (hs : piece l (a + M.many l a + 3) (a + M.many l a + 7) = M.big 4 (M.sumP (piece l (a + 3) (a + M.many l a + 3)))) (w : World) :
    Calls Tryz.prog 151 #[.string (S l), .int .i64 a] w fun e w' => e = .returned (.tuple #[.string (S (piece l (a + 3) (a + M.many l a + 3))), .int .i64 ((a + M.many l a + 8 : Nat)), .bool true]) ∧ Below w.heap.size w w' := by
  have d1 : decide ((l.length : Int) ≤ (a : Int)) = false := by simp; omega
  have hs0 := run_piece_from (P := Tryz.prog) 9 Tryz.underlying9 l (a : Int) a rfl (by omega)
  have hrl : (l.drop a).length + a = l.length := by rw [List.length_drop]; omega
  have hs1 := run_piece_to (P := Tryz.prog) 9 Tryz.underlying9 (l.drop a) 1 1 rfl (by omega)
  rw [take_one_at l a (by omega), h2] at hs1
  have b1 := B_range (l.drop a) 1
  have b2 := B_range (l.drop a) 2
  have hj : bits .or .i64 (B (l.drop a) 1 * 256) (B (l.drop a) 2) = ((M.many l a : Nat) : Int) := by
    rw [join8 _ _ b1.1 (by omega) b2.1 (by omega), B_off, B_off]
    unfold M.many B
    omega
  have hs2 := run_piece (P := Tryz.prog) 9 Tryz.underlying9 (l.drop a) ((M.many l a : Int) + 8 - 1) ((M.many l a : Int) + 8) (M.many l a + 7) (M.many l a + 8) (by omega) (by omega) (by omega) (by omega)
  rw [piece_drop, show a + (M.many l a + 8) = a + (M.many l a + 7) + 1 from by omega, piece_one_at l _ (by omega), show a + (M.many l a + 7) = a + M.many l a + 7 from by omega] at hs2
  rw [h3] at hs2
  have hs3 := run_piece (P := Tryz.prog) 9 Tryz.underlying9 (l.drop a) 3 (3 + (M.many l a : Int)) 3 (3 + M.many l a) (by omega) (by omega) (by omega) (by omega)
  rw [piece_drop, show a + (3 + M.many l a) = a + M.many l a + 3 from by omega] at hs3
  have hs4 := run_piece (P := Tryz.prog) 9 Tryz.underlying9 (l.drop a) (3 + (M.many l a : Int)) ((M.many l a : Int) + 8 - 1) (3 + M.many l a) (M.many l a + 7) (by omega) (by omega) (by omega) (by omega)
  rw [piece_drop, show a + (3 + M.many l a) = a + M.many l a + 3 from by omega, show a + (M.many l a + 7) = a + M.many l a + 7 from by omega] at hs4
  have hpl := piece_length l (a + 3) (a + M.many l a + 3) (by omega) (by omega)
  have c1 := fun W => sum0_any (piece l (a + 3) (a + M.many l a + 3)) (by omega) W
  have c2 := fun W => bytes_any (M.sumP (piece l (a + 3) (a + M.many l a + 3))) (M.sumP_lt _) W
  generalize piece l (a + 3) (a + M.many l a + 3) = p at *
  generalize M.sumP p = sp at *
  generalize M.big 4 sp = v at *
  generalize piece l (a + M.many l a + 3) (a + M.many l a + 7) = u at *
  generalize M.many l a = m at *
  have d3 : decide (16384 < (m : Int)) = false := by simp; omega
  generalize l.drop a = r at *
  have d2 : decide ((r.length : Int) < 8) = false := by simp; omega
  have d4 : decide ((r.length : Int) < (m : Int) + 8) = false := by simp; omega
  have C1 := Lib.hid c1
  have C2 := Lib.hid c2
  clear c1 c2
  subst hs
  go_enter Tryz.func151, Tryz.ntmps151
  go_wp2_with fail
  go_quiet (fail)
  go_wp2_with fail
  refine wp_region_quiet_below (by kernel_rfl) (by kernel_rfl) ?_
  repeat (go_big_quiet_step ((first | (go_at_call 121; with_reducible exact Calls.regrown_of (C1.out _)) | (go_at_call 120; with_reducible exact Calls.regrown_of (C2.out _)))))
  refine wpQuiet_nil ?_
  intro _ hw1
  obtain ⟨⟨d, o⟩, hw1⟩ := hw1
  subst hw1
  go_wp2_with fail
  go_ret3
  exact ⟨rfl, below_step (below_drewN (Below.refl _ _) _) (below_regrown _ d o)⟩

def triF (r : Option (List UInt8 × Nat)) : Value := match r with
  | some (p, e) => .tuple #[.string (S p), .int .i64 e, .bool true]
  | none => .tuple #[.string (S []), .int .i64 0, .bool false]

theorem next_any (l : List UInt8) (hl : l.length ≤ 9223372036854775807) (at_ : Int) (w : World) :
    Calls Tryz.prog 151 #[.string (S l), .int .i64 at_] w fun e w' => e = .returned (triF (M.nextI l at_)) ∧ Below w.heap.size w w' := by
  by_cases h0 : at_ < 0
  · rw [M.nextI_neg l at_ h0]
    exact (next_neg l at_ h0 w).mono fun e w' ⟨he, hw⟩ => ⟨he, hw ▸ Below.refl _ _⟩
  · obtain ⟨a, rfl⟩ := Int.eq_ofNat_of_zero_le (show 0 ≤ at_ by omega)
    rw [M.nextI_nat]
    by_cases h1 : l.length ≤ a
    · rw [M.next_no (fun h => by have := h.room; omega)]
      exact (next_far l a (by omega) (by omega) w).mono fun e w' ⟨he, hw⟩ => ⟨he, hw ▸ Below.refl _ _⟩
    · by_cases h8 : l.length < a + 8
      · rw [M.next_no (fun h => by have := h.room; omega)]
        exact (next_short l hl a (by omega) h8 w).mono fun e w' ⟨he, hw⟩ => ⟨he, hw ▸ Below.refl _ _⟩
      · by_cases h2 : l.getD a 0 = 2
        · by_cases hm : 16384 < M.many l a
          · rw [M.next_no (fun h => by have := h.most; omega)]
            exact next_most l hl a (by omega) h2 hm w
          · by_cases hf : l.length < a + M.many l a + 8
            · rw [M.next_no (fun h => by have := h.fits; omega)]
              exact next_room l hl a (by omega) h2 (by omega) hf w
            · by_cases h3 : l.getD (a + M.many l a + 7) 0 = 3
              · by_cases hs : piece l (a + M.many l a + 3) (a + M.many l a + 7) = M.big 4 (M.sumP (piece l (a + 3) (a + M.many l a + 3)))
                · rw [M.next_yes ⟨by omega, h2, by omega, by omega, h3, hs⟩]
                  exact next_stands l hl a (by omega) h2 (by omega) (by omega) h3 hs w
                · rw [M.next_no (fun h => hs h.sum)]
                  exact next_sum l hl a (by omega) h2 (by omega) (by omega) h3 hs w
              · rw [M.next_no (fun h => h3 h.three)]
                exact next_three l hl a (by omega) h2 (by omega) (by omega) h3 w
        · rw [M.next_no (fun h => h2 h.two)]
          exact (next_two l hl a (by omega) h2 w).mono fun e w' ⟨he, hw⟩ => ⟨he, hw ▸ Below.refl _ _⟩

end Go.Proofs.YtmammmjmipgmoaaGreatDoor

/- Layer 4: the document's Next, by a contract. -/
namespace Go.Proofs.YtmammmjmipgmoaaGreatDoor
set_option linter.unusedVariables false
open Go Go.RowKit
attribute [local go_sem ↓] run_index_S
attribute [local go_sem] S_append S_extract

end Go.Proofs.YtmammmjmipgmoaaGreatDoor

/- Layer 4: Resync, the program's and the document's, by contracts. -/
namespace Go.Proofs.YtmammmjmipgmoaaGreatDoor
set_option linter.unusedVariables false
open Go Go.RowKit
attribute [local go_sem ↓] run_index_S
attribute [local go_sem] S_append S_extract

/-- P4.3. -/
def M.rsF (s : List UInt8) : Nat → Nat → Nat
  | 0, _ => s.length
  | f + 1, a => if M.Stands s a then a else M.rsF s f (a + 1)
def M.rs (s : List UInt8) (a : Nat) : Nat := M.rsF s (s.length - a) a
end Go.Proofs.YtmammmjmipgmoaaGreatDoor

/- Layer 4: the document's Frame, by a contract: bytes that are appended. -/
namespace Go.Proofs.YtmammmjmipgmoaaGreatDoor
set_option linter.unusedVariables false
open Go Go.RowKit
attribute [local go_sem ↓] run_index_S
attribute [local go_sem] S_append S_extract

end Go.Proofs.YtmammmjmipgmoaaGreatDoor

/- Layer 4: the document's Whole, by a contract: a loop that appends. -/
namespace Go.Proofs.YtmammmjmipgmoaaGreatDoor
set_option linter.unusedVariables false
open Go Go.RowKit
attribute [local go_sem ↓] run_index_S
attribute [local go_sem] S_append S_extract

end Go.Proofs.YtmammmjmipgmoaaGreatDoor

/- Layer 4: the program's iterator over frames (each), by the contract of a range over a function. -/
namespace Go.Proofs.YtmammmjmipgmoaaGreatDoor
set_option linter.unusedVariables false
open Go Go.RowKit Go.Shelf
attribute [local go_sem ↓] run_index_S
attribute [local go_sem] S_append S_extract
attribute [local go_sem] Oper.semAt_some

abbrev encF (x : List UInt8 × Nat) : Array Value := #[.string (S x.1), .int .i64 (x.2 : Nat)]

/-- The frames from a place on, each with its end. -/
def M.runs (s : List UInt8) (e : Nat) : List (List UInt8 × Nat) :=
  match h : M.next s e with
  | none => []
  | some (p, z) => (p, z) :: M.runs s z
termination_by s.length - e
decreasing_by
  have := M.next_bounds h
  omega
theorem M.runs_none {s : List UInt8} {e : Nat} (h : M.next s e = none) : M.runs s e = [] := by
  rw [M.runs]
  split
  · rfl
  · rename_i p z h'
    rw [h] at h'; simp at h'
theorem M.runs_some {s p : List UInt8} {e z : Nat} (h : M.next s e = some (p, z)) : M.runs s e = (p, z) :: M.runs s z := by
  rw [M.runs]
  split
  · rename_i h'
    rw [h] at h'; simp at h'
  · rename_i p' z' h'
    rw [h] at h'
    simp only [Option.some.injEq, Prod.mk.injEq] at h'
    rw [← h'.1, ← h'.2]

theorem below_grownBy {w w' : World} (h : Below w.heap.size w w') : w.grownBy w' none :=
  ⟨h.os, h.tape, h.output, h.size, fun k hk _ => h.block k hk⟩

/-- What a round keeps for the iterator: its box. -/
def KpB (b : Nat) (W W' : World) : Prop := W'.cell? ⟨b, 0, none⟩ = W.cell? ⟨b, 0, none⟩ ∧ W.heap.size ≤ W'.heap.size
theorem kpB_t {b : Nat} {A B C : World} (h : KpB b A B) (k : KpB b B C) : KpB b A C := ⟨k.1.trans h.1, Nat.le_trans h.2 k.2⟩
theorem kpB_b {b : Nat} {w : World} (hb : b < w.heap.size) (W : World) (l : Nat) (o o' : Obj) (hl : w.heap.size ≤ l) (h : W.heap[l]? = some o) (_ : o.isCells = false) (_ : o.isWalk = false) : KpB b W (W.putObj l o') :=
  ⟨World.cell?_of_block ((grownBy_putObj' W l o').block b (by have := (Array.getElem?_eq_some_iff.1 h).1; omega) (by simp; omega)), (grownBy_putObj' W l o').size⟩

def leftF (L : Nat) (nx ok : Value) : Nat := match ok with
  | .bool true => L + 1 - (intOf nx).toNat
  | _ => 0

def frV (r : Option (List UInt8 × Nat)) : Value × Value × Value := match r with
  | some (p, e) => (.string (S p), .int .i64 e, .bool true)
  | none => (.string (S []), .int .i64 0, .bool false)
theorem triF_frV (r : Option (List UInt8 × Nat)) : triF r = .tuple #[(frV r).1, (frV r).2.1, (frV r).2.2] := by
  cases r with
  | none => rfl
  | some q => rfl
theorem leftF_lt (l : List UInt8) (z : Nat) (hz : z ≤ l.length) : leftF l.length (frV (M.next l z)).2.1 (frV (M.next l z)).2.2 < l.length + 1 - z := by
  cases h : M.next l z with
  | none => simp only [frV, leftF]; omega
  | some r =>
    obtain ⟨p, e⟩ := r
    have hb := M.next_bounds h
    simp only [frV, leftF, intOf]
    omega
/-- Where the iterator stands ahead of a round. -/
def StepE (l : List UInt8) (J : List (List UInt8 × Nat) → World → Prop) (b n₀ : Nat) (p nx ok : Value) (wr : World) : Prop :=
  ∃ (pre : List (List UInt8 × Nat)) (z : Nat), p = (frV (M.next l z)).1 ∧ nx = (frV (M.next l z)).2.1 ∧ ok = (frV (M.next l z)).2.2 ∧ z ≤ l.length ∧ J pre wr ∧ 8 * pre.length ≤ z ∧ pre ++ M.runs l z = M.runs l 0 ∧ wr.cell? ⟨b, 0, none⟩ = some (.string (S l)) ∧ n₀ ≤ wr.heap.size

end Go.Proofs.YtmammmjmipgmoaaGreatDoor

/- Layer 4: the program's Whole, by a contract: a range over the frames. -/
namespace Go.Proofs.YtmammmjmipgmoaaGreatDoor
set_option linter.unusedVariables false
open Go Go.RowKit Go.Shelf
attribute [local go_sem ↓] run_index_S
attribute [local go_sem] S_append S_extract
attribute [local go_sem] Oper.semAt_some

end Go.Proofs.YtmammmjmipgmoaaGreatDoor

/- Plain mathematics of layer 4: a frame in a text, and what stands there when a byte has turned. No Go here. -/
namespace Go.Proofs.YtmammmjmipgmoaaGreatDoor
set_option linter.unusedVariables false

theorem getD_right (a b : List UInt8) (i : Nat) (h : a.length ≤ i) : (a ++ b).getD i 0 = b.getD (i - a.length) 0 := by
  simp [List.getD, List.getElem?_append_right h]
theorem getD_piece (s : List UInt8) (a b i : Nat) (h : a + i < b) : (piece s a b).getD i 0 = s.getD (a + i) 0 := by
  simp only [piece, List.getD, List.getElem?_take, List.getElem?_drop]
  rw [if_pos (by omega)]
theorem piece_piece (s : List UInt8) (a b i j : Nat) (h : a + j ≤ b) : piece (piece s a b) i j = piece s (a + i) (a + j) := by
  simp only [piece, List.drop_take, List.take_take, List.drop_drop]
  congr 1
  omega
theorem piece_split (s : List UInt8) (a b c : Nat) (h : a ≤ b) (k : b ≤ c) : piece s a c = piece s a b ++ piece s b c := by
  simp only [piece]
  rw [show c - a = (b - a) + (c - b) from by omega, List.take_add, List.drop_drop, show a + (b - a) = b from by omega]
theorem piece_mid (u p v : List UInt8) : piece (u ++ p ++ v) u.length (u.length + p.length) = p := by
  simp [piece]
theorem piece_left (u v : List UInt8) (i j : Nat) (h : j ≤ u.length) : piece (u ++ v) i j = piece u i j := by
  unfold piece
  by_cases hij : i ≤ u.length
  · rw [List.drop_append_of_le_length hij, List.take_append_of_le_length (by simp; omega)]
  · rw [show j - i = 0 from by omega]; simp

namespace M

theorem frame_getD0 (p : List UInt8) : (frameP p).getD 0 0 = 2 := rfl
theorem frame_getD1 (p : List UInt8) : (frameP p).getD 1 0 = UInt8.ofNat (p.length / 256) := rfl
theorem frame_getD2 (p : List UInt8) : (frameP p).getD 2 0 = UInt8.ofNat (p.length % 256) := rfl
theorem ofNat_toNat (n : Nat) (h : n < 256) : (UInt8.ofNat n).toNat = n := by
  rw [UInt8.toNat_ofNat']; exact Nat.mod_eq_of_lt (by omega)
theorem frame_many (p : List UInt8) (hp : p.length ≤ 16384) : many (frameP p) 0 = p.length := by
  unfold many
  rw [frame_getD1, frame_getD2, ofNat_toNat _ (by omega), ofNat_toNat _ (by omega)]
  omega
theorem frame_split (p : List UInt8) : frameP p = ([2] ++ [UInt8.ofNat (p.length / 256), UInt8.ofNat (p.length % 256)]) ++ p ++ (big 4 (sumP p) ++ [3]) := by
  simp [frameP]
theorem frame_payload (p : List UInt8) : piece (frameP p) 3 (p.length + 3) = p := by
  rw [frame_split]
  have := piece_mid ([2] ++ [UInt8.ofNat (p.length / 256), UInt8.ofNat (p.length % 256)]) p (big 4 (sumP p) ++ [3])
  simpa [Nat.add_comm] using this
theorem frame_sum (p : List UInt8) : piece (frameP p) (p.length + 3) (p.length + 7) = big 4 (sumP p) := by
  have := piece_mid ([2] ++ [UInt8.ofNat (p.length / 256), UInt8.ofNat (p.length % 256)] ++ p) (big 4 (sumP p)) [3]
  rw [big4_length] at this
  have e : ([2] ++ [UInt8.ofNat (p.length / 256), UInt8.ofNat (p.length % 256)] ++ p).length = p.length + 3 := by simp
  rw [e] at this
  exact this
theorem frame_last (p : List UInt8) : (frameP p).getD (p.length + 7) 0 = 3 := by
  unfold frameP
  rw [getD_right _ _ _ (by simp [big4_length])]
  simp [big4_length]

/-- Where one frame's bytes stand. -/
theorem stands_of {s p : List UInt8} {a : Nat} (hp : p.length ≤ 16384) (hl : a + p.length + 8 ≤ s.length) (he : piece s a (a + p.length + 8) = frameP p) : Stands s a ∧ next s a = some (p, a + p.length + 8) := by
  have g : ∀ i, i < p.length + 8 → s.getD (a + i) 0 = (frameP p).getD i 0 := fun i hi => by
    rw [← he, getD_piece _ _ _ _ (by omega)]
  have q : ∀ i j, j ≤ p.length + 8 → piece s (a + i) (a + j) = piece (frameP p) i j := fun i j hj => by
    rw [← he, piece_piece _ _ _ _ _ (by omega)]
  have hm : many s a = p.length := by
    have := frame_many p hp
    unfold many at this ⊢
    rw [g 1 (by omega), g 2 (by omega)]
    simpa using this
  have hpay : piece s (a + 3) (a + many s a + 3) = p := by
    rw [hm, show a + p.length + 3 = a + (p.length + 3) from by omega, q 3 (p.length + 3) (by omega), frame_payload]
  have hs : Stands s a := by
    refine ⟨by omega, ?_, by omega, by omega, ?_, ?_⟩
    · have := g 0 (by omega); rw [Nat.add_zero] at this; rw [this]; exact frame_getD0 p
    · rw [hm, show a + p.length + 7 = a + (p.length + 7) from by omega, g _ (by omega), frame_last]
    · rw [hpay, hm, show a + p.length + 3 = a + (p.length + 3) from by omega, show a + p.length + 7 = a + (p.length + 7) from by omega, q _ _ (by omega), frame_sum]
  exact ⟨hs, by rw [next_yes hs, hpay, hm]⟩

theorem of_stands {s : List UInt8} {a : Nat} (h : Stands s a) : piece s a (a + many s a + 8) = frameP (piece s (a + 3) (a + many s a + 3)) := by
  have hr := h.room
  have hf := h.fits
  have hlen : (piece s (a + 3) (a + many s a + 3)).length = many s a := by rw [piece_length _ _ _ (by omega) (by omega)]; omega
  have h1 := (s.getD (a + 1) 0).toNat_lt
  have h2 := (s.getD (a + 2) 0).toNat_lt
  have e1 : UInt8.ofNat (many s a / 256) = s.getD (a + 1) 0 := by
    rw [show many s a / 256 = (s.getD (a + 1) 0).toNat from by unfold many; omega, UInt8.ofNat_toNat]
  have e2 : UInt8.ofNat (many s a % 256) = s.getD (a + 2) 0 := by
    rw [show many s a % 256 = (s.getD (a + 2) 0).toNat from by unfold many; omega, UInt8.ofNat_toNat]
  unfold frameP
  rw [hlen, ← h.sum, e1, e2]
  rw [piece_split s a (a + 1) _ (by omega) (by omega), piece_split s (a + 1) (a + 2) _ (by omega) (by omega), piece_split s (a + 2) (a + 3) _ (by omega) (by omega), piece_split s (a + 3) (a + many s a + 3) (a + many s a + 8) (by omega) (by omega), piece_split s (a + many s a + 3) (a + many s a + 7) (a + many s a + 8) (by omega) (by omega)]
  rw [piece_one_at s a (by omega), piece_one_at s (a + 1) (by omega), piece_one_at s (a + 2) (by omega), show a + many s a + 8 = a + many s a + 7 + 1 from by omega, piece_one_at s (a + many s a + 7) (by omega), h.two, h.three]
  simp

theorem next_at (u p v : List UInt8) (hp : p.length ≤ 16384) : Stands (u ++ frameP p ++ v) u.length ∧ next (u ++ frameP p ++ v) u.length = some (p, u.length + p.length + 8) := by
  refine stands_of hp (by simp [frameP_length]; omega) ?_
  have := piece_mid u (frameP p) v
  rwa [frameP_length, ← Nat.add_assoc] at this

end M
end Go.Proofs.YtmammmjmipgmoaaGreatDoor

/- A region that draws its order, one operation of which stores to a cell that others load: the loads are taken first, as long as that one has not come up. -/
namespace Go.Proofs.YtmammmjmipgmoaaGreatDoor
set_option linter.unusedVariables false
open Go Go.RowKit
section
variable {P : Program} {ops : Array Oper} {Q : Exit → Act → World → Prop} {md : Region.Mode} {S : World → Prop} {z : Nat}

/-- Whatever order is picked; S holds behind each operation, as long as number z has not come up. -/
def wpAnyZ (P : Program) (md : Region.Mode) (ops : Array Oper) (Q : Exit → Act → World → Prop) (S : World → Prop) (z : Nat) : Nat → Array Bool → Act → World → Prop
  | 0, listed, a, w => Region.ready md ops listed = [] ∧ Q .normal a w
  | fuel + 1, listed, a, w =>
    (Region.ready md ops listed = [] → Q .normal a w) ∧
    ∀ i ∈ Region.ready md ops listed, wpOp P ops Q i (fun a' w' => if i = z then wpAny P md ops Q fuel (listed.setIfInBounds i true) a' w' else S w' ∧ wpAnyZ P md ops Q S z fuel (listed.setIfInBounds i true) a' w') a w
theorem wpAny_of_Z : ∀ (fuel : Nat) (listed : Array Bool) (a : Act) (w : World), wpAnyZ P md ops Q S z fuel listed a w → wpAny P md ops Q fuel listed a w
  | 0, _, _, _, h => h
  | fuel + 1, _, _, _, h => ⟨h.1, fun i hi => wpOp_mono (fun a' w' h' => by
      by_cases e : i = z
      · rw [if_pos e] at h'; exact h'
      · rw [if_neg e] at h'; exact wpAny_of_Z fuel _ a' w' h'.2) (h.2 i hi)⟩
/-- Of these each waits for one of them, or for number i. -/
def waits (md : Region.Mode) (ops : Array Oper) (us : List Nat) (i : Nat) : Bool :=
  us.all fun u => match ops[u]? with
    | none => false
    | some o => o.after.any fun e => Region.binds md e && (e.on == i || us.contains e.on)
theorem not_listed {listed : Array Bool} {k : Nat} (h : listed.getD k true = false) : listed.getD k false = false := by
  rcases Nat.lt_or_ge k listed.size with h' | h'
  · simp [h'] at h ⊢; exact h
  · simp [Array.getElem?_eq_none h'] at h ⊢
theorem waits_ready {us : List Nat} {i : Nat} {listed : Array Bool} (hw : waits md ops us i = true) (hi : listed.getD i true = false) (hu : ∀ u, u ∈ us → listed.getD u true = false) {j : Nat} (hj : j ∈ Region.ready md ops listed) : j ∉ us := fun hjs => by
  obtain ⟨_, oj, hoj, hall⟩ := mem_ready.1 hj
  have h1 := List.all_eq_true.1 hw j hjs
  rw [hoj] at h1
  obtain ⟨e, he, h2⟩ := Array.any_eq_true'.1 h1
  rw [Bool.and_eq_true, Bool.or_eq_true] at h2
  have h3 := hall e he h2.1
  have h4 : listed.getD e.on true = false := by
    rcases h2.2 with q | q
    · rw [beq_iff_eq] at q; rw [q]; exact hi
    · exact hu _ (by simpa using q)
  rw [not_listed h4] at h3
  cases h3
theorem wpAnyZ_first {i : Nat} {oi : Oper} {v : Value} {us : List Nat} (hi : ops[i]? = some oi) (hsel : ∀ (j : Nat) (o : Oper) cs b, ops[j]? = some o → o.op ≠ .select cs b)
    (hQ : ∀ c a w, Q (.panic c) (a.put oi.dst v) w → Q (.panic c) a w) (hz : z ∈ us) (hiz : i ≠ z) (hw : waits md ops us i = true) :
    ∀ (fuel : Nat) (listed : Array Bool) (a : Act) (w : World),
      (∀ j oj, ops[j]? = some oj → j ≠ i → listed.getD j true = false → (∀ e ∈ oj.after, Region.binds md e = true → e.on ≠ i) → oi.apart ops oj = true) →
      (∀ u, u ∈ us → listed.getD u true = false) →
      i ∈ Region.ready md ops listed → YieldsIf P ops S oi v a → S w →
      wpAnyZ P md ops Q S z fuel (listed.setIfInBounds i true) (a.put oi.dst v) w → wpAnyZ P md ops Q S z (fuel + 1) listed a w := by
  intro fuel
  induction fuel with
  | zero =>
    intro listed a w _ _ hr hy hS H
    refine ⟨fun h => (by rw [h] at hr; cases hr), fun j hj => ?_⟩
    by_cases hji : j = i
    · subst hji; exact hy.wpOp hi hS (by rw [if_neg hiz]; exact ⟨hS, H⟩)
    · have := ready_mono hj hji
      rw [H.1] at this
      cases this
  | succ fuel ih =>
    intro listed a w hfree hus hr hy hS H
    refine ⟨fun h => (by rw [h] at hr; cases hr), fun j hj => ?_⟩
    by_cases hji : j = i
    · subst hji; exact hy.wpOp hi hS (by rw [if_neg hiz]; exact ⟨hS, H⟩)
    · have hju : j ∉ us := waits_ready hw (mem_ready.1 hr).1 hus hj
      have hjz : j ≠ z := fun e => hju (e ▸ hz)
      have h1 := H.2 j (ready_mono hj hji)
      simp only [if_neg hjz] at h1
      obtain ⟨hjun, oj, hoj, hall⟩ := mem_ready.1 hj
      have hnot : ∀ e ∈ oj.after, Region.binds md e = true → e.on ≠ i := fun e he hb heq => by
        have h1 := hall e he hb
        rw [heq, not_listed (mem_ready.1 hr).1] at h1
        cases h1
      have h2 := wpOp_putIf hoj (hfree j oj hoj hji hjun hnot) (fun cs b => hsel i oi cs b hi) (fun cs b => hsel j oj cs b hoj) hQ hy h1
      have hset : ∀ k, (listed.setIfInBounds j true).getD k true = false → listed.getD k true = false := fun k hk => by
        by_cases hjk : j = k
        · subst hjk; exact hjun
        · rw [getD_set_ne true hjk] at hk; exact hk
      have hfree' : ∀ k ok, ops[k]? = some ok → k ≠ i → (listed.setIfInBounds j true).getD k true = false →
          (∀ e ∈ ok.after, Region.binds md e = true → e.on ≠ i) → oi.apart ops ok = true := fun k ok hk hki hun hno => hfree k ok hk hki (hset k hun) hno
      have hus' : ∀ u, u ∈ us → (listed.setIfInBounds j true).getD u true = false := fun u hu => by
        have hju2 : j ≠ u := fun e => hju (e ▸ hu)
        rw [getD_set_ne true hju2]; exact hus u hu
      refine wpOp_mono (fun a' w' h3 => ?_) h2
      rw [if_neg hjz]
      refine ⟨h3.2.1, ih (listed.setIfInBounds j true) a' w' hfree' hus' (ready_mono hr (Ne.symm hji)) h3.1 h3.2.1 ?_⟩
      rw [Array.setIfInBounds_comm _ _ hji]
      exact h3.2.2
/-- Take number i first. -/
theorem wpAnyZ_take {i : Nat} {oi : Oper} {v : Value} {fuel : Nat} {listed : Array Bool} {a : Act} {w : World} (us : List Nat) (hi : ops[i]? = some oi)
    (hs : Region.noSelect ops = true) (hf : Region.free md ops listed i = true) (hr : (Region.ready md ops listed).contains i = true)
    (hu : (us.contains z && (i != z) && waits md ops us i && us.all (fun u => !listed.getD u true)) = true)
    (hQ : ∀ c a w, Q (.panic c) (a.put oi.dst v) w → Q (.panic c) a w) (hy : YieldsIf P ops S oi v a) (hS : S w)
    (h : wpAnyZ P md ops Q S z fuel (listed.setIfInBounds i true) (a.put oi.dst v) w) : wpAnyZ P md ops Q S z (fuel + 1) listed a w := by
  simp only [Bool.and_eq_true, bne_iff_ne, List.all_eq_true, Bool.not_eq_true'] at hu
  obtain ⟨⟨⟨h1, h2⟩, h3⟩, h4⟩ := hu
  exact wpAnyZ_first hi (Region.noSelect_spec hs) hQ (by simpa using h1) h2 h3 fuel listed a w (Region.free_spec hi hf) h4 (by simpa using hr) hy hS h
theorem wpAnyZ_firstY {i : Nat} {oi : Oper} {v : Value} (hi : ops[i]? = some oi) (hsel : ∀ (j : Nat) (o : Oper) cs b, ops[j]? = some o → o.op ≠ .select cs b)
    (hQ : ∀ c a w, Q (.panic c) (a.put oi.dst v) w → Q (.panic c) a w) (hiz : i ≠ z) :
    ∀ (fuel : Nat) (listed : Array Bool) (a : Act) (w : World),
      (∀ j oj, ops[j]? = some oj → j ≠ i → listed.getD j true = false → (∀ e ∈ oj.after, Region.binds md e = true → e.on ≠ i) → oi.apart ops oj = true) →
      i ∈ Region.ready md ops listed → Yields P ops oi v a → S w →
      wpAnyZ P md ops Q S z fuel (listed.setIfInBounds i true) (a.put oi.dst v) w → wpAnyZ P md ops Q S z (fuel + 1) listed a w := by
  intro fuel
  induction fuel with
  | zero =>
    intro listed a w _ hr hy hS H
    refine ⟨fun h => (by rw [h] at hr; cases hr), fun j hj => ?_⟩
    by_cases hji : j = i
    · subst hji; exact hy.wpOp hi (by rw [if_neg hiz]; exact ⟨hS, H⟩)
    · have := ready_mono hj hji
      rw [H.1] at this
      cases this
  | succ fuel ih =>
    intro listed a w hfree hr hy hS H
    refine ⟨fun h => (by rw [h] at hr; cases hr), fun j hj => ?_⟩
    by_cases hji : j = i
    · subst hji; exact hy.wpOp hi (by rw [if_neg hiz]; exact ⟨hS, H⟩)
    · have h1 := H.2 j (ready_mono hj hji)
      obtain ⟨hjun, oj, hoj, hall⟩ := mem_ready.1 hj
      have hnot : ∀ e ∈ oj.after, Region.binds md e = true → e.on ≠ i := fun e he hb heq => by
        have h1 := hall e he hb
        rw [heq, not_listed (mem_ready.1 hr).1] at h1
        cases h1
      have hset : ∀ k, (listed.setIfInBounds j true).getD k true = false → listed.getD k true = false := fun k hk => by
        by_cases hjk : j = k
        · subst hjk; exact hjun
        · rw [getD_set_ne true hjk] at hk; exact hk
      have hfree' : ∀ k ok, ops[k]? = some ok → k ≠ i → (listed.setIfInBounds j true).getD k true = false →
          (∀ e ∈ ok.after, Region.binds md e = true → e.on ≠ i) → oi.apart ops ok = true := fun k ok hk hki hun hno => hfree k ok hk hki (hset k hun) hno
      by_cases hjz : j = z
      · simp only [if_pos hjz] at h1
        have h2 := wpOp_put hoj (hfree j oj hoj hji hjun hnot) (fun cs b => hsel i oi cs b hi) (fun cs b => hsel j oj cs b hoj) hQ hy h1
        refine wpOp_mono (fun a' w' h3 => ?_) h2
        rw [if_pos hjz]
        refine wpAny_first hi hsel hQ fuel (listed.setIfInBounds j true) a' w' hfree' (ready_mono hr (Ne.symm hji)) h3.1 ?_
        rw [Array.setIfInBounds_comm _ _ hji]
        exact h3.2
      · simp only [if_neg hjz] at h1
        have h2 := wpOp_put hoj (hfree j oj hoj hji hjun hnot) (fun cs b => hsel i oi cs b hi) (fun cs b => hsel j oj cs b hoj) hQ hy h1
        refine wpOp_mono (fun a' w' h3 => ?_) h2
        rw [if_neg hjz]
        refine ⟨h3.2.1, ih (listed.setIfInBounds j true) a' w' hfree' (ready_mono hr (Ne.symm hji)) h3.1 h3.2.1 ?_⟩
        rw [Array.setIfInBounds_comm _ _ hji]
        exact h3.2.2
/-- Take number i first, which yields in whatever world. -/
theorem wpAnyZ_takeY {i : Nat} {oi : Oper} {v : Value} {fuel : Nat} {listed : Array Bool} {a : Act} {w : World} (hi : ops[i]? = some oi)
    (hs : Region.noSelect ops = true) (hf : Region.free md ops listed i = true) (hr : (Region.ready md ops listed).contains i = true) (hiz : (i != z) = true)
    (hQ : ∀ c a w, Q (.panic c) (a.put oi.dst v) w → Q (.panic c) a w) (hy : Yields P ops oi v a) (hS : S w)
    (h : wpAnyZ P md ops Q S z fuel (listed.setIfInBounds i true) (a.put oi.dst v) w) : wpAnyZ P md ops Q S z (fuel + 1) listed a w :=
  wpAnyZ_firstY hi (Region.noSelect_spec hs) hQ (by simpa using hiz) fuel listed a w (Region.free_spec hi hf) (by simpa using hr) hy hS h
def AllReadyZ (P : Program) (md : Region.Mode) (ops : Array Oper) (Q : Exit → Act → World → Prop) (S : World → Prop) (z : Nat) (fuel : Nat) (listed : Array Bool) (a : Act) (w : World) (rs : List Nat) : Prop :=
  ∀ i ∈ rs, wpOp P ops Q i (fun a' w' => if i = z then wpAny P md ops Q fuel (listed.setIfInBounds i true) a' w' else S w' ∧ wpAnyZ P md ops Q S z fuel (listed.setIfInBounds i true) a' w') a w
theorem AllReadyZ.nil {fuel : Nat} {listed : Array Bool} {a : Act} {w : World} : AllReadyZ P md ops Q S z fuel listed a w [] := fun _ h => by cases h
/-- One that is not number z: S is to be shown anew. -/
theorem AllReadyZ.cons {fuel : Nat} {listed : Array Bool} {a : Act} {w : World} {i : Nat} {o : Oper} {rs : List Nat} (ho : ops[i]? = some o) (hiz : (i == z) = false)
    (h : ∀ K' : Act → World → Prop, Shut (∀ a w, S w → (S w → wpAnyZ P md ops Q S z fuel (listed.setIfInBounds i true) a w) → K' a w) → if Region.wanted o (yielded ops a.tmps) = true then Oper.wp P o a w K' Q else K' (a.put o.dst undef) w)
    (hs : AllReadyZ P md ops Q S z fuel listed a w rs) : AllReadyZ P md ops Q S z fuel listed a w (i :: rs) := fun j hj => by
  rcases List.mem_cons.1 hj with rfl | hj
  · have e : j ≠ z := by simpa using hiz
    simp only [if_neg e]
    exact wpOp_step ho (fun K' hK => h K' (fun a w hS hW => hK a w ⟨hS, hW hS⟩))
  · exact hs j hj
/-- Number z. -/
theorem AllReadyZ.last {fuel : Nat} {listed : Array Bool} {a : Act} {w : World} {o : Oper} {rs : List Nat} (ho : ops[z]? = some o)
    (h : ∀ K' : Act → World → Prop, Shut (∀ a w, wpAny P md ops Q fuel (listed.setIfInBounds z true) a w → K' a w) → if Region.wanted o (yielded ops a.tmps) = true then Oper.wp P o a w K' Q else K' (a.put o.dst undef) w)
    (hs : AllReadyZ P md ops Q S z fuel listed a w rs) : AllReadyZ P md ops Q S z fuel listed a w (z :: rs) := fun j hj => by
  rcases List.mem_cons.1 hj with rfl | hj
  · simp only [if_pos]
    exact wpOp_step ho (fun K' hK => h K' hK)
  · exact hs j hj
theorem wpAnyZ_ready {rs : List Nat} {fuel : Nat} {listed : Array Bool} {a : Act} {w : World} (hr : Region.ready md ops listed = rs) (hne : rs ≠ [])
    (h : AllReadyZ P md ops Q S z fuel listed a w rs) : wpAnyZ P md ops Q S z (fuel + 1) listed a w :=
  ⟨fun h0 => absurd (hr ▸ h0) hne, hr ▸ h⟩
theorem wp_region_Z {id : Nat} {a : Act} {w : World} (S : World → Prop) (z : Nat) (hm : P.follows .mixedOrders = true) (hS : S w.drew)
    (h : S w.drew → wpAnyZ P .any ops Q S z ops.size (Array.replicate ops.size false) a w.drew) : (Code.region id ops true).wp P Q a w :=
  wp_region_any hm (wpAny_of_Z _ _ _ _ (h hS))
end

end Go.Proofs.YtmammmjmipgmoaaGreatDoor
