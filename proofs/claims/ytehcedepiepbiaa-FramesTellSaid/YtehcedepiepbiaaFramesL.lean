/- Layer 4: the laws' walks: FramesTell, FramesRow. -/
import Derived.Test.YtehcedepiepbiaaFramesK
namespace Go.Proofs.Ytehcedepiepbiaa
set_option linter.unusedVariables false
open Go Go.RowKit
attribute [local go_sem ↓] run_index_S
attribute [local go_sem] S_append S_extract

theorem triF_parts (r : Option (List UInt8 × Nat)) : ∃ (q : List UInt8) (z : Int) (b : Bool), triF r = .tuple #[.string (S q), .int .i64 z, .bool b] := by
  cases r with
  | none => exact ⟨_, _, _, rfl⟩
  | some q => exact ⟨_, _, _, rfl⟩

set_option maxHeartbeats 1000000 in
theorem framesTell_calls (p : List UInt8) (hp : p.length ≤ 140737488351232) (t : List UInt8) (ht : t.length ≤ 140737488351232) (at_ : Int) (wa : (Lit.int .i64 at_).wf = true) (w : World) :
    Calls Try.prog 3 #[.string (S p), .string (S t), .int .i64 at_] w fun e w' => e = .returned (.bool true) ∧ Below w.heap.size w w' := by
  by_cases h1 : 17000 < p.length
  · have d1 : decide (17000 < (p.length : Int)) = true := by simp; omega
    go_enter Try.func3, Try.ntmps3
    go_wp2_with fail
    with_reducible refine (known_any _).mono ?_
    rintro e w1 ⟨rfl, hb1⟩
    go_wp2_with fail
    go_ret
    exact ⟨rfl, hb1⟩
  have d1 : decide (17000 < (p.length : Int)) = false := by simp; omega
  by_cases h2 : 1500 < t.length
  · have d2 : decide (1500 < (t.length : Int)) = true := by simp; omega
    go_enter Try.func3, Try.ntmps3
    go_wp2_with fail
    with_reducible refine (known_any _).mono ?_
    rintro e w1 ⟨rfl, hb1⟩
    go_wp2_with fail
    go_ret
    exact ⟨rfl, hb1⟩
  have d2 : decide (1500 < (t.length : Int)) = false := by simp; omega
  have c1 := fun W => frame_any p W
  have c2 := fun W => refFrame_any p W
  generalize (if p.length ≤ 16384 then M.frameP p else []) = fr at c1 c2
  generalize (if p.length ≤ 16384 then (0 : Int) else 3) = en at c1 c2
  obtain ⟨q, z, b, hr⟩ := triF_parts (M.nextI t at_)
  have c3 := fun W => next_any t (by omega) at_ W
  have c4 := fun W => refNext_any t ht at_ W
  rw [hr] at c3 c4
  obtain ⟨a0, ha0⟩ : ∃ a0 : Nat, at_ = a0 ∨ (at_ < 0 ∧ a0 = 0) := by
    by_cases h : at_ < 0
    · exact ⟨0, .inr ⟨h, rfl⟩⟩
    · exact ⟨at_.toNat, .inl (by omega)⟩
  have c5 := fun W => resync_nat t ht at_ a0 ha0 W
  have c6 := fun W => refResync_nat t ht at_ a0 ha0 W
  generalize ((M.rs t a0 : Nat) : Int) = rr at c5 c6
  have C1 := Lib.hid c1
  have C2 := Lib.hid c2
  have C3 := Lib.hid c3
  have C4 := Lib.hid c4
  have C5 := Lib.hid c5
  have C6 := Lib.hid c6
  clear c1 c2 c3 c4 c5 c6 hr ha0
  go_enter Try.func3, Try.ntmps3
  go_wp2_with fail
  with_reducible refine (C1.out _).mono ?_
  rintro e w1 ⟨rfl, hb1⟩
  go_wp2_with fail
  with_reducible refine (C2.out _).mono ?_
  rintro e w2 ⟨rfl, hb2⟩
  have HB2 := Lib.hid (below_step hb1 hb2)
  clear hb1 hb2
  go_wp2_with fail
  with_reducible refine (C3.out _).mono ?_
  rintro e w3 ⟨rfl, hb3⟩
  have HB3 := Lib.hid (below_step HB2.out hb3)
  clear hb3
  go_wp2_with fail
  with_reducible refine (C4.out _).mono ?_
  rintro e w4 ⟨rfl, hb4⟩
  have HB4 := Lib.hid (below_step HB3.out hb4)
  clear hb4
  go_wp2_with fail
  with_reducible refine (C5.out _).mono ?_
  rintro e w5 ⟨rfl, hb5⟩
  have HB5 := Lib.hid (below_step HB4.out hb5)
  clear hb5
  go_wp2_with fail
  with_reducible refine (C6.out _).mono ?_
  rintro e w6 ⟨rfl, hb6⟩
  have HB6 := Lib.hid (below_step HB5.out hb6)
  clear hb6
  go_wp2_with fail
  with_reducible refine (known_any _).mono ?_
  rintro e w7 ⟨rfl, hb7⟩
  go_wp2_with fail
  go_ret
  exact ⟨rfl, below_step HB6.out hb7⟩

theorem wh_length (s : List UInt8) : ∀ (k e : Nat), s.length - e ≤ k → (M.wh s e).1.length ≤ k := by
  intro k
  induction k with
  | zero =>
    intro e he
    have hn : M.next s e = none := by
      cases h : M.next s e with
      | none => rfl
      | some q =>
        obtain ⟨p, z⟩ := q
        have := M.next_bounds h
        omega
    rw [M.wh_none hn]
    simp
  | succ k ih =>
    intro e he
    cases h : M.next s e with
    | none => rw [M.wh_none h]; simp
    | some q =>
      obtain ⟨p, z⟩ := q
      have hb := M.next_bounds h
      have hi := ih z (by omega)
      rw [M.wh_some h]
      simpa using hi

set_option maxHeartbeats 1000000 in
theorem framesRow_calls (t : List UInt8) (ht : t.length ≤ 140737488351232) (w : World) :
    Calls Try.prog 4 #[.string (S t)] w fun e w' => e = .returned (.bool true) ∧ Below w.heap.size w w' := by
  by_cases h1 : 40000 < t.length
  · have d1 : decide (40000 < (t.length : Int)) = true := by simp; omega
    go_enter Try.func4, Try.ntmps4
    go_wp2_with fail
    with_reducible refine (known_any _).mono ?_
    rintro e w1 ⟨rfl, hb1⟩
    go_wp2_with fail
    go_ret
    exact ⟨rfl, hb1⟩
  have d1 : decide (40000 < (t.length : Int)) = false := by simp; omega
  have c1 := fun W => whole_any t (by omega) W
  have c2 := fun W => refRow_any t (by omega) W
  have hps := wh_length t t.length 0 (by omega)
  generalize (M.wh t 0).1 = ps at c1 c2 hps
  generalize (((M.wh t 0).2 : Nat) : Int) = z at c1 c2
  have C1 := Lib.hid c1
  have C2 := Lib.hid c2
  clear c1 c2
  go_enter Try.func4, Try.ntmps4
  go_wp2_with fail
  with_reducible refine (C1.out _).mono ?_
  rintro e w1 ⟨v1, rfl, hr1, hb1⟩
  obtain ⟨ao, ca, rfl, ra⟩ := txtRow_of hr1
  clear hr1
  go_wp2_with fail
  with_reducible refine (C2.out _).mono ?_
  rintro e w2 ⟨v2, rfl, hr2, hb2⟩
  obtain ⟨bo, cb, rfl, rb⟩ := txtRow_of hr2
  have ra2 := ra.below hb2
  have HB2 := Lib.hid (below_step hb1 hb2)
  have cs := sameTexts_eq ps ps (by omega) rfl ao bo ca cb w2 ra2 rb
  rw [show decide (ps = ps) = true from by simp] at cs
  have CS := Lib.hid cs
  clear hb1 hb2 hr2 ra rb ra2 cs
  go_wp2_with fail
  with_reducible refine CS.out.mono ?_
  rintro e w3 ⟨rfl, hb3⟩
  have HB3 := Lib.hid (below_step HB2.out hb3)
  clear hb3
  go_wp2_with fail
  with_reducible refine (known_any _).mono ?_
  rintro e w4 ⟨rfl, hb4⟩
  go_wp2_with fail
  go_ret
  exact ⟨rfl, below_step HB3.out hb4⟩

end Go.Proofs.Ytehcedepiepbiaa
