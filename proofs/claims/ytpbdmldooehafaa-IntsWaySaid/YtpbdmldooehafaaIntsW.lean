/- Layer 1: the walk of IntsWay: what was got was put. -/
import Derived.Test.YtpbdmldooehafaaIntsL2
import Derived.Deep.QuietTactic
import Derived.BigQuiet
import Derived.Lib.QuietBelow
namespace Go.Proofs.Ytpbdmldooehafaa
set_option linter.unusedVariables false
open Go Go.RowKit
attribute [local go_sem ↓] run_index_S
attribute [local go_sem] S_append S_extract

theorem piece_app (l : List UInt8) (i j k : Nat) (hij : i ≤ j) (hjk : j ≤ k) : piece l i j ++ piece l j k = piece l i k := by
  unfold piece
  have e : (l.drop i).take (k - i) = ((l.drop i).take (j - i)) ++ ((l.drop i).drop (j - i)).take (k - j) := by
    rw [show k - i = (j - i) + (k - j) from by omega, List.take_add]
  rw [e, List.drop_drop, show i + (j - i) = j from by omega]

theorem below_quiet {w a : World} (h : Below w.heap.size w a) (n : Nat) : Below w.heap.size w (a.drewN n) := below_drewN h n
theorem below_grow {w a : World} (h : Below w.heap.size w a) (d : Nat) (o : Array Obj) : Below w.heap.size w (Sort.grow (redrawn a d) o) := below_step h (below_regrown a d o)

/-- What GetText tells stands there. -/
theorem getTs_bounds {l t : List UInt8} {a n next e : Nat} (hg : M.gets l a = some (n, next)) (h : M.getTs l a = some (t, e)) : next ≤ e ∧ e ≤ l.length ∧ M.putN t.length ++ t = piece l a e := by
  have hb := M.gets_bounds hg
  unfold M.getTs at h
  rw [hg] at h
  simp only at h
  split at h
  · rename_i hr
    simp only [Option.some.injEq, Prod.mk.injEq] at h
    obtain ⟨h1, h2⟩ := h
    have ht : t.length = n := by rw [← h1]; simp; omega
    refine ⟨by omega, by omega, ?_⟩
    rw [ht, hb.2.2.2.2.2, ← h1, ← h2, ← piece_app l a next (next + n) (by omega) (by omega)]
    rfl
  · simp at h

set_option maxHeartbeats 2000000 in
set_option maxRecDepth 100000 in
theorem way_000 (l : List UInt8) (hlen : l.length ≤ 140737488351232) (at_ : Int) (w : World)
    (hg : M.gets l at_ = none) (ho : M.ofBigs l at_ = none) (ht : M.getTs l at_ = none) :
    Calls Try.prog 7 #[.string (S l), .int .i64 at_] w fun e w' => e = .returned (.bool true) ∧ Below w.heap.size w w' := by
  have c1 := fun W => get_any l at_ W (by omega)
  have c2 := fun W => ofBig_any l at_ W (by omega)
  have c3 := fun W => getText_any l at_ W (by omega)
  rw [hg] at c1
  simp only [tri] at c1
  rw [ho] at c2
  simp only [duo] at c2
  rw [ht] at c3
  simp only [triT] at c3
  have C1 := Lib.hid c1
  have C2 := Lib.hid c2
  have C3 := Lib.hid c3
  clear c1 c2 c3
  clear hg ho ht
  go_enter Try.func7, Try.ntmps7
  go_wp2_with fail
  with_reducible refine (C1.out _).mono ?_
  rintro e w' ⟨rfl, rfl⟩
  go_wp2_with fail
  go_quiet (fail)
  go_wp2_with fail
  with_reducible refine (C2.out _).mono ?_
  rintro e w' ⟨rfl, rfl⟩
  go_wp2_with fail
  go_quiet (fail)
  go_wp2_with fail
  with_reducible refine (C3.out _).mono ?_
  rintro e w' ⟨rfl, rfl⟩
  go_wp2_with fail
  go_quiet (fail)
  go_wp2_with fail
  with_reducible refine (does1 _).mono ?_
  rintro e w5 ⟨rfl, hb5⟩
  go_wp2_with fail
  go_ret
  exact ⟨rfl, below_step (below_quiet (Below.refl _ _) _) hb5⟩

set_option maxHeartbeats 2000000 in
set_option maxRecDepth 100000 in
theorem way_010 (l : List UInt8) (hlen : l.length ≤ 140737488351232) (a : Nat) (w : World)
    (hg : M.gets l a = none) {k : Nat} (ho : M.ofBigs l a = some k) (ht : M.getTs l a = none) :
    Calls Try.prog 7 #[.string (S l), .int .i64 a] w fun e w' => e = .returned (.bool true) ∧ Below w.heap.size w w' := by
  have c1 := fun W => get_any l a W (by omega)
  have c2 := fun W => ofBig_any l a W (by omega)
  have c3 := fun W => getText_any l a W (by omega)
  rw [hg] at c1
  simp only [tri] at c1
  have bo := M.ofBigs_bounds ho
  obtain ⟨o1, o2, o3, o4⟩ := bo
  rw [ho] at c2
  simp only [duo] at c2
  have q5 : decide ((k : Int) < 0) = false := by simp
  have q6 : decide ((a : Int) < 0) = false := by simp
  have q7 : decide ((l.length : Int) - 8 < (a : Int)) = false := by simp; omega
  have hs2 := run_piece (P := Try.prog) 9 Try.underlying9 l (a : Int) ((a : Int) + 8) a (a + 8) rfl (by omega) (by omega) (by omega)
  have ew : IntKind.i64.wrap ((a : Int) + 8) = (a : Int) + 8 := IntWalk.i64_in _ (by omega)
  have e2 : M.bigN k = piece l a (a + 8) := by rw [o4]; unfold piece; rw [show a + 8 - a = 8 from by omega]; rfl
  have p2 := fun W => big_nat k W o3
  rw [e2] at p2
  have P2 := Lib.hid p2
  rw [ht] at c3
  simp only [triT] at c3
  have C1 := Lib.hid c1
  have C2 := Lib.hid c2
  have C3 := Lib.hid c3
  clear c1 c2 c3
  clear p2 e2 o4 hg ho ht
  go_enter Try.func7, Try.ntmps7
  go_wp2_with fail
  with_reducible refine (C1.out _).mono ?_
  rintro e w' ⟨rfl, rfl⟩
  go_wp2_with fail
  go_quiet (fail)
  go_wp2_with fail
  with_reducible refine (C2.out _).mono ?_
  rintro e w' ⟨rfl, rfl⟩
  go_wp2_with fail
  refine wp_region_quiet_below (by kernel_rfl) (by kernel_rfl) ?_
  repeat (any_goals (first | go_big_quiet_step ((go_at_call 17; exact Calls.regrown_of (P2.out _))) | quiet_step ((go_at_call 17; exact Calls.regrown_of (P2.out _)))))
  refine wpQuiet_nil ?_
  intro _ hw2
  obtain ⟨⟨d2, o2⟩, hw2⟩ := hw2
  subst hw2
  go_wp2_with fail
  with_reducible refine (C3.out _).mono ?_
  rintro e w' ⟨rfl, rfl⟩
  go_wp2_with fail
  go_quiet (fail)
  go_wp2_with fail
  with_reducible refine (does1 _).mono ?_
  rintro e w5 ⟨rfl, hb5⟩
  go_wp2_with fail
  go_ret
  exact ⟨rfl, below_step (below_quiet (below_grow (below_quiet (Below.refl _ _) _) _ _) _) hb5⟩

set_option maxHeartbeats 2000000 in
set_option maxRecDepth 100000 in
theorem way_100 (l : List UInt8) (hlen : l.length ≤ 140737488351232) (a : Nat) (w : World)
    {n next : Nat} (hg : M.gets l a = some (n, next)) (ho : M.ofBigs l a = none) (ht : M.getTs l a = none) :
    Calls Try.prog 7 #[.string (S l), .int .i64 a] w fun e w' => e = .returned (.bool true) ∧ Below w.heap.size w w' := by
  have c1 := fun W => get_any l a W (by omega)
  have c2 := fun W => ofBig_any l a W (by omega)
  have c3 := fun W => getText_any l a W (by omega)
  have bg := M.gets_bounds hg
  obtain ⟨b1, b2, b3, b4, b5, b6⟩ := bg
  rw [hg] at c1
  simp only [tri] at c1
  have q1 : decide ((n : Int) < 0) = false := by simp
  have q2 : decide ((a : Int) < 0) = false := by simp
  have q3 : decide (next ≤ a) = false := by simp; omega
  have q4 : decide (l.length < next) = false := by simp; omega
  have hs1 := run_piece (P := Try.prog) 9 Try.underlying9 l (a : Int) (next : Int) a next rfl rfl (by omega) b3
  have e1 : M.putN n = piece l a next := b6
  have p1 := fun W => put_nat n W b4
  rw [e1] at p1
  have P1 := Lib.hid p1
  rw [ho] at c2
  simp only [duo] at c2
  rw [ht] at c3
  simp only [triT] at c3
  have C1 := Lib.hid c1
  have C2 := Lib.hid c2
  have C3 := Lib.hid c3
  clear c1 c2 c3
  clear p1 e1 b6 hg ho ht
  go_enter Try.func7, Try.ntmps7
  go_wp2_with fail
  with_reducible refine (C1.out _).mono ?_
  rintro e w' ⟨rfl, rfl⟩
  go_wp2_with fail
  refine wp_region_quiet_below (by kernel_rfl) (by kernel_rfl) ?_
  repeat (any_goals (first | go_big_quiet_step ((go_at_call 15; exact Calls.regrown_of (P1.out _))) | quiet_step ((go_at_call 15; exact Calls.regrown_of (P1.out _)))))
  refine wpQuiet_nil ?_
  intro _ hw1
  obtain ⟨⟨d1, o1⟩, hw1⟩ := hw1
  subst hw1
  go_wp2_with fail
  with_reducible refine (C2.out _).mono ?_
  rintro e w' ⟨rfl, rfl⟩
  go_wp2_with fail
  go_quiet (fail)
  go_wp2_with fail
  with_reducible refine (C3.out _).mono ?_
  rintro e w' ⟨rfl, rfl⟩
  go_wp2_with fail
  go_quiet (fail)
  go_wp2_with fail
  with_reducible refine (does1 _).mono ?_
  rintro e w5 ⟨rfl, hb5⟩
  go_wp2_with fail
  go_ret
  exact ⟨rfl, below_step (below_quiet (below_grow (Below.refl _ _) _ _) _) hb5⟩

set_option maxHeartbeats 2000000 in
set_option maxRecDepth 100000 in
theorem way_101 (l : List UInt8) (hlen : l.length ≤ 140737488351232) (a : Nat) (w : World)
    {n next : Nat} (hg : M.gets l a = some (n, next)) (ho : M.ofBigs l a = none) {u : List UInt8} {z : Nat} (ht : M.getTs l a = some (u, z)) :
    Calls Try.prog 7 #[.string (S l), .int .i64 a] w fun e w' => e = .returned (.bool true) ∧ Below w.heap.size w w' := by
  have c1 := fun W => get_any l a W (by omega)
  have c2 := fun W => ofBig_any l a W (by omega)
  have c3 := fun W => getText_any l a W (by omega)
  have bg := M.gets_bounds hg
  obtain ⟨b1, b2, b3, b4, b5, b6⟩ := bg
  rw [hg] at c1
  simp only [tri] at c1
  have q1 : decide ((n : Int) < 0) = false := by simp
  have q2 : decide ((a : Int) < 0) = false := by simp
  have q3 : decide (next ≤ a) = false := by simp; omega
  have q4 : decide (l.length < next) = false := by simp; omega
  have hs1 := run_piece (P := Try.prog) 9 Try.underlying9 l (a : Int) (next : Int) a next rfl rfl (by omega) b3
  have e1 : M.putN n = piece l a next := b6
  have p1 := fun W => put_nat n W b4
  rw [e1] at p1
  have P1 := Lib.hid p1
  rw [ho] at c2
  simp only [duo] at c2
  have bt := getTs_bounds hg ht
  obtain ⟨t1, t2, t3⟩ := bt
  rw [ht] at c3
  simp only [triT] at c3
  have q8 : decide (z < next) = false := by simp; omega
  have q9 : decide (l.length < z) = false := by simp; omega
  have hs3 := run_piece (P := Try.prog) 9 Try.underlying9 l (a : Int) (z : Int) a z rfl rfl (by omega) t2
  have hu : u.length ≤ 140737488351232 := by have h := congrArg List.length t3; rw [List.length_append, piece_length l a z (by omega) t2] at h; omega
  have p3 := fun W => putText_any u W (by omega)
  rw [t3] at p3
  have P3 := Lib.hid p3
  have C1 := Lib.hid c1
  have C2 := Lib.hid c2
  have C3 := Lib.hid c3
  clear c1 c2 c3
  clear p1 e1 b6 p3 t3 hg ho ht
  go_enter Try.func7, Try.ntmps7
  go_wp2_with fail
  with_reducible refine (C1.out _).mono ?_
  rintro e w' ⟨rfl, rfl⟩
  go_wp2_with fail
  refine wp_region_quiet_below (by kernel_rfl) (by kernel_rfl) ?_
  repeat (any_goals (first | go_big_quiet_step ((go_at_call 15; exact Calls.regrown_of (P1.out _))) | quiet_step ((go_at_call 15; exact Calls.regrown_of (P1.out _)))))
  refine wpQuiet_nil ?_
  intro _ hw1
  obtain ⟨⟨d1, o1⟩, hw1⟩ := hw1
  subst hw1
  go_wp2_with fail
  with_reducible refine (C2.out _).mono ?_
  rintro e w' ⟨rfl, rfl⟩
  go_wp2_with fail
  go_quiet (fail)
  go_wp2_with fail
  with_reducible refine (C3.out _).mono ?_
  rintro e w' ⟨rfl, rfl⟩
  go_wp2_with fail
  refine wp_region_quiet_below (by kernel_rfl) (by kernel_rfl) ?_
  repeat (any_goals (first | go_big_quiet_step ((go_at_call 26; exact Calls.regrown_of (P3.out _))) | quiet_step ((go_at_call 26; exact Calls.regrown_of (P3.out _)))))
  refine wpQuiet_nil ?_
  intro _ hw3
  obtain ⟨⟨d3, o3⟩, hw3⟩ := hw3
  subst hw3
  go_wp2_with fail
  with_reducible refine (does1 _).mono ?_
  rintro e w5 ⟨rfl, hb5⟩
  go_wp2_with fail
  go_ret
  exact ⟨rfl, below_step (below_grow (below_quiet (below_grow (Below.refl _ _) _ _) _) _ _) hb5⟩

set_option maxHeartbeats 2000000 in
set_option maxRecDepth 100000 in
theorem way_110 (l : List UInt8) (hlen : l.length ≤ 140737488351232) (a : Nat) (w : World)
    {n next : Nat} (hg : M.gets l a = some (n, next)) {k : Nat} (ho : M.ofBigs l a = some k) (ht : M.getTs l a = none) :
    Calls Try.prog 7 #[.string (S l), .int .i64 a] w fun e w' => e = .returned (.bool true) ∧ Below w.heap.size w w' := by
  have c1 := fun W => get_any l a W (by omega)
  have c2 := fun W => ofBig_any l a W (by omega)
  have c3 := fun W => getText_any l a W (by omega)
  have bg := M.gets_bounds hg
  obtain ⟨b1, b2, b3, b4, b5, b6⟩ := bg
  rw [hg] at c1
  simp only [tri] at c1
  have q1 : decide ((n : Int) < 0) = false := by simp
  have q2 : decide ((a : Int) < 0) = false := by simp
  have q3 : decide (next ≤ a) = false := by simp; omega
  have q4 : decide (l.length < next) = false := by simp; omega
  have hs1 := run_piece (P := Try.prog) 9 Try.underlying9 l (a : Int) (next : Int) a next rfl rfl (by omega) b3
  have e1 : M.putN n = piece l a next := b6
  have p1 := fun W => put_nat n W b4
  rw [e1] at p1
  have P1 := Lib.hid p1
  have bo := M.ofBigs_bounds ho
  obtain ⟨o1, o2, o3, o4⟩ := bo
  rw [ho] at c2
  simp only [duo] at c2
  have q5 : decide ((k : Int) < 0) = false := by simp
  have q6 : decide ((a : Int) < 0) = false := by simp
  have q7 : decide ((l.length : Int) - 8 < (a : Int)) = false := by simp; omega
  have hs2 := run_piece (P := Try.prog) 9 Try.underlying9 l (a : Int) ((a : Int) + 8) a (a + 8) rfl (by omega) (by omega) (by omega)
  have ew : IntKind.i64.wrap ((a : Int) + 8) = (a : Int) + 8 := IntWalk.i64_in _ (by omega)
  have e2 : M.bigN k = piece l a (a + 8) := by rw [o4]; unfold piece; rw [show a + 8 - a = 8 from by omega]; rfl
  have p2 := fun W => big_nat k W o3
  rw [e2] at p2
  have P2 := Lib.hid p2
  rw [ht] at c3
  simp only [triT] at c3
  have C1 := Lib.hid c1
  have C2 := Lib.hid c2
  have C3 := Lib.hid c3
  clear c1 c2 c3
  clear p1 e1 b6 p2 e2 o4 hg ho ht
  go_enter Try.func7, Try.ntmps7
  go_wp2_with fail
  with_reducible refine (C1.out _).mono ?_
  rintro e w' ⟨rfl, rfl⟩
  go_wp2_with fail
  refine wp_region_quiet_below (by kernel_rfl) (by kernel_rfl) ?_
  repeat (any_goals (first | go_big_quiet_step ((go_at_call 15; exact Calls.regrown_of (P1.out _))) | quiet_step ((go_at_call 15; exact Calls.regrown_of (P1.out _)))))
  refine wpQuiet_nil ?_
  intro _ hw1
  obtain ⟨⟨d1, o1⟩, hw1⟩ := hw1
  subst hw1
  go_wp2_with fail
  with_reducible refine (C2.out _).mono ?_
  rintro e w' ⟨rfl, rfl⟩
  go_wp2_with fail
  refine wp_region_quiet_below (by kernel_rfl) (by kernel_rfl) ?_
  repeat (any_goals (first | go_big_quiet_step ((go_at_call 17; exact Calls.regrown_of (P2.out _))) | quiet_step ((go_at_call 17; exact Calls.regrown_of (P2.out _)))))
  refine wpQuiet_nil ?_
  intro _ hw2
  obtain ⟨⟨d2, o2⟩, hw2⟩ := hw2
  subst hw2
  go_wp2_with fail
  with_reducible refine (C3.out _).mono ?_
  rintro e w' ⟨rfl, rfl⟩
  go_wp2_with fail
  go_quiet (fail)
  go_wp2_with fail
  with_reducible refine (does1 _).mono ?_
  rintro e w5 ⟨rfl, hb5⟩
  go_wp2_with fail
  go_ret
  exact ⟨rfl, below_step (below_quiet (below_grow (below_grow (Below.refl _ _) _ _) _ _) _) hb5⟩

set_option maxHeartbeats 2000000 in
set_option maxRecDepth 100000 in
theorem way_111 (l : List UInt8) (hlen : l.length ≤ 140737488351232) (a : Nat) (w : World)
    {n next : Nat} (hg : M.gets l a = some (n, next)) {k : Nat} (ho : M.ofBigs l a = some k) {u : List UInt8} {z : Nat} (ht : M.getTs l a = some (u, z)) :
    Calls Try.prog 7 #[.string (S l), .int .i64 a] w fun e w' => e = .returned (.bool true) ∧ Below w.heap.size w w' := by
  have c1 := fun W => get_any l a W (by omega)
  have c2 := fun W => ofBig_any l a W (by omega)
  have c3 := fun W => getText_any l a W (by omega)
  have bg := M.gets_bounds hg
  obtain ⟨b1, b2, b3, b4, b5, b6⟩ := bg
  rw [hg] at c1
  simp only [tri] at c1
  have q1 : decide ((n : Int) < 0) = false := by simp
  have q2 : decide ((a : Int) < 0) = false := by simp
  have q3 : decide (next ≤ a) = false := by simp; omega
  have q4 : decide (l.length < next) = false := by simp; omega
  have hs1 := run_piece (P := Try.prog) 9 Try.underlying9 l (a : Int) (next : Int) a next rfl rfl (by omega) b3
  have e1 : M.putN n = piece l a next := b6
  have p1 := fun W => put_nat n W b4
  rw [e1] at p1
  have P1 := Lib.hid p1
  have bo := M.ofBigs_bounds ho
  obtain ⟨o1, o2, o3, o4⟩ := bo
  rw [ho] at c2
  simp only [duo] at c2
  have q5 : decide ((k : Int) < 0) = false := by simp
  have q6 : decide ((a : Int) < 0) = false := by simp
  have q7 : decide ((l.length : Int) - 8 < (a : Int)) = false := by simp; omega
  have hs2 := run_piece (P := Try.prog) 9 Try.underlying9 l (a : Int) ((a : Int) + 8) a (a + 8) rfl (by omega) (by omega) (by omega)
  have ew : IntKind.i64.wrap ((a : Int) + 8) = (a : Int) + 8 := IntWalk.i64_in _ (by omega)
  have e2 : M.bigN k = piece l a (a + 8) := by rw [o4]; unfold piece; rw [show a + 8 - a = 8 from by omega]; rfl
  have p2 := fun W => big_nat k W o3
  rw [e2] at p2
  have P2 := Lib.hid p2
  have bt := getTs_bounds hg ht
  obtain ⟨t1, t2, t3⟩ := bt
  rw [ht] at c3
  simp only [triT] at c3
  have q8 : decide (z < next) = false := by simp; omega
  have q9 : decide (l.length < z) = false := by simp; omega
  have hs3 := run_piece (P := Try.prog) 9 Try.underlying9 l (a : Int) (z : Int) a z rfl rfl (by omega) t2
  have hu : u.length ≤ 140737488351232 := by have h := congrArg List.length t3; rw [List.length_append, piece_length l a z (by omega) t2] at h; omega
  have p3 := fun W => putText_any u W (by omega)
  rw [t3] at p3
  have P3 := Lib.hid p3
  have C1 := Lib.hid c1
  have C2 := Lib.hid c2
  have C3 := Lib.hid c3
  clear c1 c2 c3
  clear p1 e1 b6 p2 e2 o4 p3 t3 hg ho ht
  go_enter Try.func7, Try.ntmps7
  go_wp2_with fail
  with_reducible refine (C1.out _).mono ?_
  rintro e w' ⟨rfl, rfl⟩
  go_wp2_with fail
  refine wp_region_quiet_below (by kernel_rfl) (by kernel_rfl) ?_
  repeat (any_goals (first | go_big_quiet_step ((go_at_call 15; exact Calls.regrown_of (P1.out _))) | quiet_step ((go_at_call 15; exact Calls.regrown_of (P1.out _)))))
  refine wpQuiet_nil ?_
  intro _ hw1
  obtain ⟨⟨d1, o1⟩, hw1⟩ := hw1
  subst hw1
  go_wp2_with fail
  with_reducible refine (C2.out _).mono ?_
  rintro e w' ⟨rfl, rfl⟩
  go_wp2_with fail
  refine wp_region_quiet_below (by kernel_rfl) (by kernel_rfl) ?_
  repeat (any_goals (first | go_big_quiet_step ((go_at_call 17; exact Calls.regrown_of (P2.out _))) | quiet_step ((go_at_call 17; exact Calls.regrown_of (P2.out _)))))
  refine wpQuiet_nil ?_
  intro _ hw2
  obtain ⟨⟨d2, o2⟩, hw2⟩ := hw2
  subst hw2
  go_wp2_with fail
  with_reducible refine (C3.out _).mono ?_
  rintro e w' ⟨rfl, rfl⟩
  go_wp2_with fail
  refine wp_region_quiet_below (by kernel_rfl) (by kernel_rfl) ?_
  repeat (any_goals (first | go_big_quiet_step ((go_at_call 26; exact Calls.regrown_of (P3.out _))) | quiet_step ((go_at_call 26; exact Calls.regrown_of (P3.out _)))))
  refine wpQuiet_nil ?_
  intro _ hw3
  obtain ⟨⟨d3, o3⟩, hw3⟩ := hw3
  subst hw3
  go_wp2_with fail
  with_reducible refine (does1 _).mono ?_
  rintro e w5 ⟨rfl, hb5⟩
  go_wp2_with fail
  go_ret
  exact ⟨rfl, below_step (below_grow (below_grow (below_grow (Below.refl _ _) _ _) _ _) _ _) hb5⟩

theorem intsWay_calls (l : List UInt8) (hlen : l.length ≤ 140737488351232) (n : Int) (wf : (Lit.int .i64 n).wf = true) (w : World) :
    Calls Try.prog 7 #[.string (S l), .int .i64 n] w fun e w' => e = .returned (.bool true) ∧ Below w.heap.size w w' := by
  cases hg : M.gets l n with
  | none =>
    have ht : M.getTs l n = none := by unfold M.getTs; rw [hg]
    cases ho : M.ofBigs l n with
    | none => exact way_000 l hlen n w hg ho ht
    | some k =>
      obtain ⟨a, rfl⟩ := Int.eq_ofNat_of_zero_le (M.ofBigs_bounds ho).1
      exact way_010 l hlen a w hg ho ht
  | some p =>
    obtain ⟨v, next⟩ := p
    obtain ⟨a, rfl⟩ := Int.eq_ofNat_of_zero_le (M.gets_bounds hg).1
    cases ho : M.ofBigs l a with
    | none =>
      cases ht : M.getTs l a with
      | none => exact way_100 l hlen a w hg ho ht
      | some q => exact way_101 l hlen a w hg ho ht
    | some k =>
      cases ht : M.getTs l a with
      | none => exact way_110 l hlen a w hg ho ht
      | some q => exact way_111 l hlen a w hg ho ht

end Go.Proofs.Ytpbdmldooehafaa
