/- Layer 4: the program's functions (frames), each by a contract: Frame, Next. -/
import Derived.Test.YtehcedepiepbiaaFramesM
import Derived.Test.YtehcedepiepbiaaSumsC2
import Derived.Test.YtehcedepiepbiaaSumsR
import Derived.Deep.QuietTactic
import Derived.BigQuiet
import Derived.Lib.QuietBelow
namespace Go.Proofs.Ytehcedepiepbiaa
set_option linter.unusedVariables false
open Go Go.RowKit
attribute [local go_sem ↓] run_index_S
attribute [local go_sem] S_append S_extract

theorem ret_fe {a b : List UInt8} {n : Int} (h : a = b) : Ending.returned (.tuple #[.string ⟨a.toArray⟩, .int .i64 n]) = .returned (.tuple #[.string ⟨b.toArray⟩, .int .i64 n]) := by rw [h]

theorem take_one_at (l : List UInt8) (a : Nat) (h : a < l.length) : (l.drop a).take 1 = [l.getD a 0] := by
  rw [List.drop_eq_getElem_cons h, List.take_succ_cons, List.take_zero]
  simp [List.getD, List.getElem?_eq_getElem h]
theorem piece_one_at (l : List UInt8) (a : Nat) (h : a < l.length) : piece l a (a + 1) = [l.getD a 0] := by
  rw [piece, show a + 1 - a = 1 from by omega, take_one_at l a h]
theorem piece_drop (l : List UInt8) (a i j : Nat) : piece (l.drop a) i j = piece l (a + i) (a + j) := by
  unfold piece
  rw [List.drop_drop, show a + j - (a + i) = j - i from by omega]
theorem B_off (l : List UInt8) (a i : Nat) : B (l.drop a) i = B l (a + i) := by
  simp [B, List.getD]

set_option maxHeartbeats 400000 in
theorem frame_long (l : List UInt8) (hl : 16384 < l.length) (w : World) :
    Calls Try.prog 13 #[.string (S l)] w fun e w' => e = .returned (.tuple #[.string ⟨#[]⟩, .int .i64 3]) ∧ w = w' := by
  have d1 : decide (16384 < (l.length : Int)) = true := by simp; omega
  go_enter Try.func13, Try.ntmps13
  go_wp2_with fail
  go_ret2
  exact ⟨rfl, rfl⟩

set_option maxHeartbeats 400000 in
theorem frame_ok (l : List UInt8) (hl : l.length ≤ 16384) (w : World) :
    Calls Try.prog 13 #[.string (S l)] w fun e w' => e = .returned (.tuple #[.string (S (M.frameP l)), .int .i64 0]) ∧ Below w.heap.size w w' := by
  have d1 : decide (16384 < (l.length : Int)) = false := by simp; omega
  have c1 := fun W => sum0_any l (by omega) W
  have c2 := fun W => bytes_any (M.sumP l) (M.sumP_lt l) W
  have ktwo := @run_string_two Try.prog 35 9 5 Try.underlying35 Try.underlying5 Try.underlying9
  have hb : (M.big 4 (M.sumP l)).length ≤ 4 := Nat.le_of_eq (M.big_length 4 (M.sumP l))
  have hfr : M.frameP l = [2] ++ [UInt8.ofNat (l.length / 256), UInt8.ofNat (l.length % 256)] ++ l ++ M.big 4 (M.sumP l) ++ [3] := rfl
  generalize M.big 4 (M.sumP l) = q at *
  generalize M.frameP l = f at *
  have C1 := Lib.hid c1
  have C2 := Lib.hid c2
  have HF := Lib.hid hfr
  clear c1 c2 hfr
  go_enter Try.func13, Try.ntmps13
  go_wp2_with fail
  with_reducible refine (C1.out _).mono ?_
  rintro e w1 ⟨rfl, hb1⟩
  go_wp2_with fail
  with_reducible refine (C2.out _).mono ?_
  rintro e w2 ⟨rfl, hb2⟩
  go_wp2_with fail
  go_ret2
  refine ⟨ret_fe ?_, below_step (below_step ((Below.refl _ _).alloc (Nat.le_refl _) _) hb1) hb2⟩
  rw [HF.out]
  simp

set_option maxHeartbeats 1000000 in
set_option maxRecDepth 100000 in
theorem next_neg (l : List UInt8) (at_ : Int) (h : at_ < 0) (w : World) :
    Calls Try.prog 15 #[.string (S l), .int .i64 at_] w fun e w' => e = .returned (.tuple #[.string ⟨#[]⟩, .int .i64 0, .bool false]) ∧ w = w' := by
  go_enter Try.func15, Try.ntmps15
  go_wp2_with fail
  go_ret3
  exact ⟨rfl, rfl⟩

set_option maxHeartbeats 1000000 in
set_option maxRecDepth 100000 in
theorem next_far (l : List UInt8) (at_ : Int) (h0 : 0 ≤ at_) (h : (l.length : Int) ≤ at_) (w : World) :
    Calls Try.prog 15 #[.string (S l), .int .i64 at_] w fun e w' => e = .returned (.tuple #[.string ⟨#[]⟩, .int .i64 0, .bool false]) ∧ w = w' := by
  go_enter Try.func15, Try.ntmps15
  go_wp2_with fail
  go_ret3
  exact ⟨rfl, rfl⟩

set_option maxHeartbeats 1000000 in
set_option maxRecDepth 100000 in
theorem next_short (l : List UInt8) (hl : l.length ≤ 9223372036854775807) (a : Nat) (h : a < l.length) (h8 : l.length < a + 8) (w : World) :
    Calls Try.prog 15 #[.string (S l), .int .i64 a] w fun e w' => e = .returned (.tuple #[.string ⟨#[]⟩, .int .i64 0, .bool false]) ∧ w = w' := by
  have d1 : decide ((l.length : Int) ≤ (a : Int)) = false := by simp; omega
  have hs0 := run_piece_from (P := Try.prog) 9 Try.underlying9 l (a : Int) a rfl (by omega)
  have hrl : (l.drop a).length ≤ 7 := by rw [List.length_drop]; omega
  generalize l.drop a = r at *
  have d2 : decide ((r.length : Int) < 8) = true := by simp; omega
  go_enter Try.func15, Try.ntmps15
  go_wp2_with fail
  go_ret3
  exact ⟨rfl, rfl⟩

set_option maxHeartbeats 1000000 in
set_option maxRecDepth 100000 in
theorem next_two (l : List UInt8) (hl : l.length ≤ 9223372036854775807) (a : Nat) (h8 : a + 8 ≤ l.length) (h2 : ¬ l.getD a 0 = 2) (w : World) :
    Calls Try.prog 15 #[.string (S l), .int .i64 a] w fun e w' => e = .returned (.tuple #[.string ⟨#[]⟩, .int .i64 0, .bool false]) ∧ w = w' := by
  have d1 : decide ((l.length : Int) ≤ (a : Int)) = false := by simp; omega
  have hs0 := run_piece_from (P := Try.prog) 9 Try.underlying9 l (a : Int) a rfl (by omega)
  have hrl : 8 ≤ (l.drop a).length := by rw [List.length_drop]; omega
  have hr1 : (l.drop a).take 1 = [l.getD a 0] := take_one_at l a (by omega)
  have hs1 := run_piece_to (P := Try.prog) 9 Try.underlying9 (l.drop a) 1 1 rfl (by omega)
  rw [hr1] at hs1
  generalize l.drop a = r at *
  generalize l.getD a 0 = x at *
  have d2 : decide ((r.length : Int) < 8) = false := by simp; omega
  have hx : (x == 2) = false := by simpa using h2
  have HX := Lib.hid hr1
  clear hr1
  go_enter Try.func15, Try.ntmps15
  go_wp2_with fail
  go_ret3
  exact ⟨rfl, rfl⟩

set_option maxHeartbeats 2000000 in
set_option maxRecDepth 100000 in
theorem next_most (l : List UInt8) (hl : l.length ≤ 9223372036854775807) (a : Nat) (h8 : a + 8 ≤ l.length) (h2 : l.getD a 0 = 2) (hm : 16384 < M.many l a) (w : World) :
    Calls Try.prog 15 #[.string (S l), .int .i64 a] w fun e w' => e = .returned (.tuple #[.string ⟨#[]⟩, .int .i64 0, .bool false]) ∧ Below w.heap.size w w' := by
  have d1 : decide ((l.length : Int) ≤ (a : Int)) = false := by simp; omega
  have hs0 := run_piece_from (P := Try.prog) 9 Try.underlying9 l (a : Int) a rfl (by omega)
  have hrl : (l.drop a).length + a = l.length := by rw [List.length_drop]; omega
  have hs1 := run_piece_to (P := Try.prog) 9 Try.underlying9 (l.drop a) 1 1 rfl (by omega)
  rw [take_one_at l a (by omega), h2] at hs1
  have b1 := B_range (l.drop a) 1
  have b2 := B_range (l.drop a) 2
  have hj : bits .or .i64 (B (l.drop a) 1 * 256) (B (l.drop a) 2) = ((M.many l a : Nat) : Int) := by
    rw [join8 _ _ b1.1 (by omega) b2.1 (by omega), B_off, B_off]
    unfold M.many B
    omega
  generalize M.many l a = m at *
  have d3 : decide (16384 < (m : Int)) = true := by simp; omega
  generalize l.drop a = r at *
  have d2 : decide ((r.length : Int) < 8) = false := by simp; omega
  go_enter Try.func15, Try.ntmps15
  go_wp2_with fail
  go_quiet (fail)
  go_wp2_with fail
  go_ret3
  exact ⟨rfl, below_drewN (Below.refl _ _) _⟩

set_option maxHeartbeats 2000000 in
set_option maxRecDepth 100000 in
theorem next_room (l : List UInt8) (hl : l.length ≤ 9223372036854775807) (a : Nat) (h8 : a + 8 ≤ l.length) (h2 : l.getD a 0 = 2) (hm : M.many l a ≤ 16384) (hf : l.length < a + M.many l a + 8) (w : World) :
    Calls Try.prog 15 #[.string (S l), .int .i64 a] w fun e w' => e = .returned (.tuple #[.string ⟨#[]⟩, .int .i64 0, .bool false]) ∧ Below w.heap.size w w' := by
  have d1 : decide ((l.length : Int) ≤ (a : Int)) = false := by simp; omega
  have hs0 := run_piece_from (P := Try.prog) 9 Try.underlying9 l (a : Int) a rfl (by omega)
  have hrl : (l.drop a).length + a = l.length := by rw [List.length_drop]; omega
  have hs1 := run_piece_to (P := Try.prog) 9 Try.underlying9 (l.drop a) 1 1 rfl (by omega)
  rw [take_one_at l a (by omega), h2] at hs1
  have b1 := B_range (l.drop a) 1
  have b2 := B_range (l.drop a) 2
  have hj : bits .or .i64 (B (l.drop a) 1 * 256) (B (l.drop a) 2) = ((M.many l a : Nat) : Int) := by
    rw [join8 _ _ b1.1 (by omega) b2.1 (by omega), B_off, B_off]
    unfold M.many B
    omega
  generalize M.many l a = m at *
  have d3 : decide (16384 < (m : Int)) = false := by simp; omega
  generalize l.drop a = r at *
  have d2 : decide ((r.length : Int) < 8) = false := by simp; omega
  have d4 : decide ((r.length : Int) < (m : Int) + 8) = true := by simp; omega
  go_enter Try.func15, Try.ntmps15
  go_wp2_with fail
  go_quiet (fail)
  go_wp2_with fail
  go_ret3
  exact ⟨rfl, below_drewN (Below.refl _ _) _⟩

set_option maxHeartbeats 2000000 in
set_option maxRecDepth 100000 in
theorem next_three (l : List UInt8) (hl : l.length ≤ 9223372036854775807) (a : Nat) (h8 : a + 8 ≤ l.length) (h2 : l.getD a 0 = 2) (hm : M.many l a ≤ 16384) (hf : a + M.many l a + 8 ≤ l.length) (h3 : ¬ l.getD (a + M.many l a + 7) 0 = 3) (w : World) :
    Calls Try.prog 15 #[.string (S l), .int .i64 a] w fun e w' => e = .returned (.tuple #[.string ⟨#[]⟩, .int .i64 0, .bool false]) ∧ Below w.heap.size w w' := by
  have d1 : decide ((l.length : Int) ≤ (a : Int)) = false := by simp; omega
  have hs0 := run_piece_from (P := Try.prog) 9 Try.underlying9 l (a : Int) a rfl (by omega)
  have hrl : (l.drop a).length + a = l.length := by rw [List.length_drop]; omega
  have hs1 := run_piece_to (P := Try.prog) 9 Try.underlying9 (l.drop a) 1 1 rfl (by omega)
  rw [take_one_at l a (by omega), h2] at hs1
  have b1 := B_range (l.drop a) 1
  have b2 := B_range (l.drop a) 2
  have hj : bits .or .i64 (B (l.drop a) 1 * 256) (B (l.drop a) 2) = ((M.many l a : Nat) : Int) := by
    rw [join8 _ _ b1.1 (by omega) b2.1 (by omega), B_off, B_off]
    unfold M.many B
    omega
  have hs2 := run_piece (P := Try.prog) 9 Try.underlying9 (l.drop a) ((M.many l a : Int) + 8 - 1) ((M.many l a : Int) + 8) (M.many l a + 7) (M.many l a + 8) (by omega) (by omega) (by omega) (by omega)
  rw [piece_drop, show a + (M.many l a + 8) = a + (M.many l a + 7) + 1 from by omega, piece_one_at l _ (by omega), show a + (M.many l a + 7) = a + M.many l a + 7 from by omega] at hs2
  generalize l.getD (a + M.many l a + 7) 0 = x at *
  have hx : (x == 3) = false := by simpa using h3
  generalize M.many l a = m at *
  have d3 : decide (16384 < (m : Int)) = false := by simp; omega
  generalize l.drop a = r at *
  have d2 : decide ((r.length : Int) < 8) = false := by simp; omega
  have d4 : decide ((r.length : Int) < (m : Int) + 8) = false := by simp; omega
  go_enter Try.func15, Try.ntmps15
  go_wp2_with fail
  go_quiet (fail)
  go_wp2_with fail
  go_ret3
  exact ⟨rfl, below_drewN (Below.refl _ _) _⟩

set_option maxHeartbeats 2000000 in
set_option maxRecDepth 100000 in
theorem next_sum (l : List UInt8) (hl : l.length ≤ 9223372036854775807) (a : Nat) (h8 : a + 8 ≤ l.length) (h2 : l.getD a 0 = 2) (hm : M.many l a ≤ 16384) (hf : a + M.many l a + 8 ≤ l.length) (h3 : l.getD (a + M.many l a + 7) 0 = 3) (hs : ¬ piece l (a + M.many l a + 3) (a + M.many l a + 7) = M.big 4 (M.sumP (piece l (a + 3) (a + M.many l a + 3)))) (w : World) :
    Calls Try.prog 15 #[.string (S l), .int .i64 a] w fun e w' => e = .returned (.tuple #[.string ⟨#[]⟩, .int .i64 0, .bool false]) ∧ Below w.heap.size w w' := by
  have d1 : decide ((l.length : Int) ≤ (a : Int)) = false := by simp; omega
  have hs0 := run_piece_from (P := Try.prog) 9 Try.underlying9 l (a : Int) a rfl (by omega)
  have hrl : (l.drop a).length + a = l.length := by rw [List.length_drop]; omega
  have hs1 := run_piece_to (P := Try.prog) 9 Try.underlying9 (l.drop a) 1 1 rfl (by omega)
  rw [take_one_at l a (by omega), h2] at hs1
  have b1 := B_range (l.drop a) 1
  have b2 := B_range (l.drop a) 2
  have hj : bits .or .i64 (B (l.drop a) 1 * 256) (B (l.drop a) 2) = ((M.many l a : Nat) : Int) := by
    rw [join8 _ _ b1.1 (by omega) b2.1 (by omega), B_off, B_off]
    unfold M.many B
    omega
  have hs2 := run_piece (P := Try.prog) 9 Try.underlying9 (l.drop a) ((M.many l a : Int) + 8 - 1) ((M.many l a : Int) + 8) (M.many l a + 7) (M.many l a + 8) (by omega) (by omega) (by omega) (by omega)
  rw [piece_drop, show a + (M.many l a + 8) = a + (M.many l a + 7) + 1 from by omega, piece_one_at l _ (by omega), show a + (M.many l a + 7) = a + M.many l a + 7 from by omega] at hs2
  rw [h3] at hs2
  have hs3 := run_piece (P := Try.prog) 9 Try.underlying9 (l.drop a) 3 (3 + (M.many l a : Int)) 3 (3 + M.many l a) (by omega) (by omega) (by omega) (by omega)
  rw [piece_drop, show a + (3 + M.many l a) = a + M.many l a + 3 from by omega] at hs3
  have hs4 := run_piece (P := Try.prog) 9 Try.underlying9 (l.drop a) (3 + (M.many l a : Int)) ((M.many l a : Int) + 8 - 1) (3 + M.many l a) (M.many l a + 7) (by omega) (by omega) (by omega) (by omega)
  rw [piece_drop, show a + (3 + M.many l a) = a + M.many l a + 3 from by omega, show a + (M.many l a + 7) = a + M.many l a + 7 from by omega] at hs4
  have hpl := piece_length l (a + 3) (a + M.many l a + 3) (by omega) (by omega)
  have c1 := fun W => sum0_any (piece l (a + 3) (a + M.many l a + 3)) (by omega) W
  have c2 := fun W => bytes_any (M.sumP (piece l (a + 3) (a + M.many l a + 3))) (M.sumP_lt _) W
  generalize piece l (a + 3) (a + M.many l a + 3) = p at *
  generalize M.sumP p = sp at *
  generalize M.big 4 sp = v at *
  generalize piece l (a + M.many l a + 3) (a + M.many l a + 7) = u at *
  generalize M.many l a = m at *
  have d3 : decide (16384 < (m : Int)) = false := by simp; omega
  generalize l.drop a = r at *
  have d2 : decide ((r.length : Int) < 8) = false := by simp; omega
  have d4 : decide ((r.length : Int) < (m : Int) + 8) = false := by simp; omega
  have C1 := Lib.hid c1
  have C2 := Lib.hid c2
  clear c1 c2
  have huv : (u == v) = false := by simpa using hs
  go_enter Try.func15, Try.ntmps15
  go_wp2_with fail
  go_quiet (fail)
  go_wp2_with fail
  refine wp_region_quiet_below (by kernel_rfl) (by kernel_rfl) ?_
  repeat (go_big_quiet_step ((first | (go_at_call 25; with_reducible exact Calls.regrown_of (C1.out _)) | (go_at_call 24; with_reducible exact Calls.regrown_of (C2.out _)))))
  refine wpQuiet_nil ?_
  intro _ hw1
  obtain ⟨⟨d, o⟩, hw1⟩ := hw1
  subst hw1
  go_wp2_with fail
  go_ret3
  exact ⟨rfl, below_step (below_drewN (Below.refl _ _) _) (below_regrown _ d o)⟩

set_option maxHeartbeats 2000000 in
set_option maxRecDepth 100000 in
theorem next_stands (l : List UInt8) (hl : l.length ≤ 9223372036854775807) (a : Nat) (h8 : a + 8 ≤ l.length) (h2 : l.getD a 0 = 2) (hm : M.many l a ≤ 16384) (hf : a + M.many l a + 8 ≤ l.length) (h3 : l.getD (a + M.many l a + 7) 0 = 3) (hs : piece l (a + M.many l a + 3) (a + M.many l a + 7) = M.big 4 (M.sumP (piece l (a + 3) (a + M.many l a + 3)))) (w : World) :
    Calls Try.prog 15 #[.string (S l), .int .i64 a] w fun e w' => e = .returned (.tuple #[.string (S (piece l (a + 3) (a + M.many l a + 3))), .int .i64 ((a + M.many l a + 8 : Nat)), .bool true]) ∧ Below w.heap.size w w' := by
  have d1 : decide ((l.length : Int) ≤ (a : Int)) = false := by simp; omega
  have hs0 := run_piece_from (P := Try.prog) 9 Try.underlying9 l (a : Int) a rfl (by omega)
  have hrl : (l.drop a).length + a = l.length := by rw [List.length_drop]; omega
  have hs1 := run_piece_to (P := Try.prog) 9 Try.underlying9 (l.drop a) 1 1 rfl (by omega)
  rw [take_one_at l a (by omega), h2] at hs1
  have b1 := B_range (l.drop a) 1
  have b2 := B_range (l.drop a) 2
  have hj : bits .or .i64 (B (l.drop a) 1 * 256) (B (l.drop a) 2) = ((M.many l a : Nat) : Int) := by
    rw [join8 _ _ b1.1 (by omega) b2.1 (by omega), B_off, B_off]
    unfold M.many B
    omega
  have hs2 := run_piece (P := Try.prog) 9 Try.underlying9 (l.drop a) ((M.many l a : Int) + 8 - 1) ((M.many l a : Int) + 8) (M.many l a + 7) (M.many l a + 8) (by omega) (by omega) (by omega) (by omega)
  rw [piece_drop, show a + (M.many l a + 8) = a + (M.many l a + 7) + 1 from by omega, piece_one_at l _ (by omega), show a + (M.many l a + 7) = a + M.many l a + 7 from by omega] at hs2
  rw [h3] at hs2
  have hs3 := run_piece (P := Try.prog) 9 Try.underlying9 (l.drop a) 3 (3 + (M.many l a : Int)) 3 (3 + M.many l a) (by omega) (by omega) (by omega) (by omega)
  rw [piece_drop, show a + (3 + M.many l a) = a + M.many l a + 3 from by omega] at hs3
  have hs4 := run_piece (P := Try.prog) 9 Try.underlying9 (l.drop a) (3 + (M.many l a : Int)) ((M.many l a : Int) + 8 - 1) (3 + M.many l a) (M.many l a + 7) (by omega) (by omega) (by omega) (by omega)
  rw [piece_drop, show a + (3 + M.many l a) = a + M.many l a + 3 from by omega, show a + (M.many l a + 7) = a + M.many l a + 7 from by omega] at hs4
  have hpl := piece_length l (a + 3) (a + M.many l a + 3) (by omega) (by omega)
  have c1 := fun W => sum0_any (piece l (a + 3) (a + M.many l a + 3)) (by omega) W
  have c2 := fun W => bytes_any (M.sumP (piece l (a + 3) (a + M.many l a + 3))) (M.sumP_lt _) W
  generalize piece l (a + 3) (a + M.many l a + 3) = p at *
  generalize M.sumP p = sp at *
  generalize M.big 4 sp = v at *
  generalize piece l (a + M.many l a + 3) (a + M.many l a + 7) = u at *
  generalize M.many l a = m at *
  have d3 : decide (16384 < (m : Int)) = false := by simp; omega
  generalize l.drop a = r at *
  have d2 : decide ((r.length : Int) < 8) = false := by simp; omega
  have d4 : decide ((r.length : Int) < (m : Int) + 8) = false := by simp; omega
  have C1 := Lib.hid c1
  have C2 := Lib.hid c2
  clear c1 c2
  subst hs
  go_enter Try.func15, Try.ntmps15
  go_wp2_with fail
  go_quiet (fail)
  go_wp2_with fail
  refine wp_region_quiet_below (by kernel_rfl) (by kernel_rfl) ?_
  repeat (go_big_quiet_step ((first | (go_at_call 25; with_reducible exact Calls.regrown_of (C1.out _)) | (go_at_call 24; with_reducible exact Calls.regrown_of (C2.out _)))))
  refine wpQuiet_nil ?_
  intro _ hw1
  obtain ⟨⟨d, o⟩, hw1⟩ := hw1
  subst hw1
  go_wp2_with fail
  go_ret3
  exact ⟨rfl, below_step (below_drewN (Below.refl _ _) _) (below_regrown _ d o)⟩

def triF (r : Option (List UInt8 × Nat)) : Value := match r with
  | some (p, e) => .tuple #[.string (S p), .int .i64 e, .bool true]
  | none => .tuple #[.string (S []), .int .i64 0, .bool false]

theorem next_any (l : List UInt8) (hl : l.length ≤ 9223372036854775807) (at_ : Int) (w : World) :
    Calls Try.prog 15 #[.string (S l), .int .i64 at_] w fun e w' => e = .returned (triF (M.nextI l at_)) ∧ Below w.heap.size w w' := by
  by_cases h0 : at_ < 0
  · rw [M.nextI_neg l at_ h0]
    exact (next_neg l at_ h0 w).mono fun e w' ⟨he, hw⟩ => ⟨he, hw ▸ Below.refl _ _⟩
  · obtain ⟨a, rfl⟩ := Int.eq_ofNat_of_zero_le (show 0 ≤ at_ by omega)
    rw [M.nextI_nat]
    by_cases h1 : l.length ≤ a
    · rw [M.next_no (fun h => by have := h.room; omega)]
      exact (next_far l a (by omega) (by omega) w).mono fun e w' ⟨he, hw⟩ => ⟨he, hw ▸ Below.refl _ _⟩
    · by_cases h8 : l.length < a + 8
      · rw [M.next_no (fun h => by have := h.room; omega)]
        exact (next_short l hl a (by omega) h8 w).mono fun e w' ⟨he, hw⟩ => ⟨he, hw ▸ Below.refl _ _⟩
      · by_cases h2 : l.getD a 0 = 2
        · by_cases hm : 16384 < M.many l a
          · rw [M.next_no (fun h => by have := h.most; omega)]
            exact next_most l hl a (by omega) h2 hm w
          · by_cases hf : l.length < a + M.many l a + 8
            · rw [M.next_no (fun h => by have := h.fits; omega)]
              exact next_room l hl a (by omega) h2 (by omega) hf w
            · by_cases h3 : l.getD (a + M.many l a + 7) 0 = 3
              · by_cases hs : piece l (a + M.many l a + 3) (a + M.many l a + 7) = M.big 4 (M.sumP (piece l (a + 3) (a + M.many l a + 3)))
                · rw [M.next_yes ⟨by omega, h2, by omega, by omega, h3, hs⟩]
                  exact next_stands l hl a (by omega) h2 (by omega) (by omega) h3 hs w
                · rw [M.next_no (fun h => hs h.sum)]
                  exact next_sum l hl a (by omega) h2 (by omega) (by omega) h3 hs w
              · rw [M.next_no (fun h => h3 h.three)]
                exact next_three l hl a (by omega) h2 (by omega) (by omega) h3 w
        · rw [M.next_no (fun h => h2 h.two)]
          exact (next_two l hl a (by omega) h2 w).mono fun e w' ⟨he, hw⟩ => ⟨he, hw ▸ Below.refl _ _⟩

end Go.Proofs.Ytehcedepiepbiaa
