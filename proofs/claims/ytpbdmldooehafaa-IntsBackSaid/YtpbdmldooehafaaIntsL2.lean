/- Layer 1: the laws' walks, continued: IntsBack, IntsCut. -/
import Derived.Test.YtpbdmldooehafaaIntsL
namespace Go.Proofs.Ytpbdmldooehafaa
set_option linter.unusedVariables false
open Go Go.RowKit
attribute [local go_sem ↓] run_index_S
attribute [local go_sem] S_append S_extract

set_option maxHeartbeats 1000000 in
set_option maxRecDepth 100000 in
theorem intsBack_calls (n : Int) (wf : (Lit.int .i64 n).wf = true) (a : List UInt8) (ha : a.length ≤ 140737488351232) (c : List UInt8) (hc : c.length ≤ 140737488351232) (w : World) :
    Calls Try.prog 6 #[.int .i64 n, .string (S a), .string (S c)] w fun e w' => e = .returned (.bool true) ∧ Below w.heap.size w w' := by
  have hr := int_range wf
  by_cases h1 : 1000 < a.length
  · go_enter Try.func6, Try.ntmps6
    go_wp2_with fail
    with_reducible refine (does1 _).mono ?_
    rintro e w5 ⟨rfl, hb5⟩
    go_wp2_with fail
    go_ret
    exact ⟨rfl, hb5⟩
  · by_cases h2 : 1000 < c.length
    · go_enter Try.func6, Try.ntmps6
      go_wp2_with fail
      with_reducible refine (does1 _).mono ?_
      rintro e w5 ⟨rfl, hb5⟩
      go_wp2_with fail
      go_ret
      exact ⟨rfl, hb5⟩
    · by_cases h3 : n < 0
      · go_enter Try.func6, Try.ntmps6
        go_wp2_with fail
        with_reducible refine (does1 _).mono ?_
        rintro e w5 ⟨rfl, hb5⟩
        go_wp2_with fail
        go_ret
        exact ⟨rfl, hb5⟩
      · obtain ⟨m, rfl⟩ := Int.eq_ofNat_of_zero_le (show 0 ≤ n by omega)
        have h4 : m ≤ 9223372036854775807 := by omega
        have hla : a.length ≤ 1000 := by omega
        have hlc : c.length ≤ 1000 := by omega
        have hl9 := M.putN_len9 m h4
        have hb8 := M.bigN_length m
        have hc9 := M.putN_len9 c.length (by omega)
        have cp := fun W => put_nat m W h4
        have cb := fun W => big_nat m W h4
        have ct := fun W => putText_any c W (by omega)
        have cg := fun W => get_any (a ++ M.putN m ++ c) a.length W (by simp only [List.length_append]; omega)
        rw [M.gets_put a c m h4, List.append_assoc] at cg
        simp only [tri] at cg
        have co := fun W => ofBig_any (a ++ M.bigN m ++ c) a.length W (by simp only [List.length_append]; omega)
        rw [M.ofBigs_big a c m h4, List.append_assoc] at co
        simp only [duo] at co
        have cx := fun W => getText_any (a ++ (M.putN c.length ++ c) ++ a) a.length W (by simp only [List.length_append]; omega)
        rw [M.getTs_put a a c (by omega)] at cx
        have hlt : (M.putN c.length ++ c).length = (M.putN c.length).length + c.length := List.length_append
        rw [Nat.add_assoc, ← hlt, List.append_assoc a _ a] at cx
        simp only [triT] at cx
        have htb : (M.putN c.length ++ c).length ≤ 1009 := by omega
        clear hlt hc9
        generalize M.putN m = p at *
        generalize M.bigN m = b at *
        generalize M.putN c.length ++ c = t at *
        have CP := Lib.hid cp
        have CB := Lib.hid cb
        have CT := Lib.hid ct
        have CG := Lib.hid cg
        have CO := Lib.hid co
        have CX := Lib.hid cx
        have hb8' : b.length ≤ 8 := by omega
        have hb8i : ((b.length : Int) == 8) = true := by simp; omega
        clear cp cb ct cg co cx hb8
        go_enter Try.func6, Try.ntmps6
        go_wp2_with fail
        with_reducible refine (CP.out _).mono ?_
        rintro e w1 ⟨rfl, hb1⟩
        go_wp2_with fail
        with_reducible refine (CB.out _).mono ?_
        rintro e w2 ⟨rfl, hb2⟩
        go_wp2_with fail
        with_reducible refine (CG.out _).mono ?_
        rintro e w' ⟨rfl, rfl⟩
        go_wp2_with fail
        with_reducible refine (CO.out _).mono ?_
        rintro e w' ⟨rfl, rfl⟩
        go_wp2_with fail
        with_reducible refine (CT.out _).mono ?_
        rintro e w3 ⟨rfl, hb3⟩
        go_wp2_with fail
        with_reducible refine (CX.out _).mono ?_
        rintro e w' ⟨rfl, rfl⟩
        go_wp2_with fail
        with_reducible refine (CT.out _).mono ?_
        rintro e w4 ⟨rfl, hb4⟩
        go_wp2_with fail
        with_reducible refine (does1 _).mono ?_
        rintro e w5 ⟨rfl, hb5⟩
        go_wp2_with fail
        go_ret
        exact ⟨rfl, below_step (below_step (below_step (below_step hb1 hb2) hb3) hb4) hb5⟩

/-- A piece from the beginning, whatever its place. -/
theorem run_take {P : Program} (t : TypeId) (h : P.underlying t = some .string) (l : List UInt8) (i : Nat) (hi : i ≤ l.length) : ∀ (w : World), (Instr.slice t (.string ⟨l.toArray⟩) none (some (.int .i64 (i : Int))) none).run P w = .ok (.string ⟨(l.take i).toArray⟩) w :=
  fun w => run_piece_to t h l (i : Int) i rfl hi w .i64

set_option maxHeartbeats 1000000 in
set_option maxRecDepth 100000 in
theorem intsCut_calls (n : Int) (wf : (Lit.int .i64 n).wf = true) (c : List UInt8) (hc : c.length ≤ 140737488351232) (w : World) :
    Calls Try.prog 8 #[.int .i64 n, .string (S c)] w fun e w' => e = .returned (.bool true) ∧ Below w.heap.size w w' := by
  have hr := int_range wf
  by_cases h3 : n < 0
  · go_enter Try.func8, Try.ntmps8
    go_wp2_with fail
    with_reducible refine (does1 _).mono ?_
    rintro e w5 ⟨rfl, hb5⟩
    go_wp2_with fail
    go_ret
    exact ⟨rfl, hb5⟩
  · by_cases h2 : 1000 < c.length
    · go_enter Try.func8, Try.ntmps8
      go_wp2_with fail
      with_reducible refine (does1 _).mono ?_
      rintro e w5 ⟨rfl, hb5⟩
      go_wp2_with fail
      go_ret
      exact ⟨rfl, hb5⟩
    · obtain ⟨m, rfl⟩ := Int.eq_ofNat_of_zero_le (show 0 ≤ n by omega)
      have h4 : m ≤ 9223372036854775807 := by omega
      have hlc : c.length ≤ 1000 := by omega
      have hl9 := M.putN_len9 m h4
      have hb8 := M.bigN_length m
      have hc9 := M.putN_len9 c.length (by omega)
      have cp := fun W => put_nat m W h4
      have cb := fun W => big_nat m W h4
      have ct := fun W => putText_any c W (by omega)
      have cg : ∀ i, i < (M.putN m).length → ∀ W, Calls Try.prog 20 #[.string (S ((M.putN m).take i)), .int .i64 0] W fun e w' => e = .returned (.tuple #[.int .i64 0, .int .i64 0, .bool false]) ∧ W = w' := fun i hi W => by
        have h := get_any ((M.putN m).take i) 0 W (by rw [List.length_take]; omega)
        rw [M.gets_cut m i hi] at h; exact h
      have co : ∀ i, i < (M.bigN m).length → ∀ W, Calls Try.prog 22 #[.string (S ((M.bigN m).take i)), .int .i64 0] W fun e w' => e = .returned (.tuple #[.int .i64 0, .bool false]) ∧ W = w' := fun i hi W => by
        have h := ofBig_any ((M.bigN m).take i) 0 W (by rw [List.length_take]; omega)
        rw [M.ofBigs_short _ (by rw [List.length_take]; omega)] at h; exact h
      have cx : ∀ i, i < (M.putN c.length ++ c).length → ∀ W, Calls Try.prog 24 #[.string (S ((M.putN c.length ++ c).take i)), .int .i64 0] W fun e w' => e = .returned (.tuple #[.string ⟨#[]⟩, .int .i64 0, .bool false]) ∧ W = w' := fun i hi W => by
        have h := getText_any ((M.putN c.length ++ c).take i) 0 W (by rw [List.length_take]; simp only [List.length_append]; omega)
        rw [M.getTs_cut c i (by omega) hi] at h; exact h
      have htb : (M.putN c.length ++ c).length ≤ 1009 := by rw [List.length_append]; omega
      generalize M.putN m = p at *
      generalize M.bigN m = b at *
      generalize M.putN c.length ++ c = t at *
      have CP := Lib.hid cp
      have CB := Lib.hid cb
      have CT := Lib.hid ct
      have CG := Lib.hid cg
      have CO := Lib.hid co
      have CX := Lib.hid cx
      have hb8' : b.length ≤ 8 := by omega
      clear cp cb ct cg co cx hb8 hc9
      go_enter Try.func8, Try.ntmps8
      go_wp2_with fail
      with_reducible refine (CP.out _).mono ?_
      rintro e w1 ⟨rfl, hb1⟩
      go_wp2_with fail
      with_reducible refine (CB.out _).mono ?_
      rintro e w2 ⟨rfl, hb2⟩
      go_wp2_with fail
      with_reducible refine (CT.out _).mono ?_
      rintro e w3 ⟨rfl, hb3⟩
      go_wp2_with fail
      go_loop [8] (fun i => ∃ k : Nat, k ≤ p.length ∧ i = .int .i64 k) (fun i => p.length - (intOf i).toNat)
      case atStart => exact ⟨0, Nat.zero_le _, rfl⟩
      case round =>
        obtain ⟨k, hk, rfl⟩ := hrel
        by_cases hkp : k < p.length
        · have hsl := run_take (P := Try.prog) 9 Try.underlying9 p k (by omega)
          go_wp2_with fail
          with_reducible refine (CG.out k hkp _).mono ?_
          rintro e w' ⟨rfl, rfl⟩
          go_wp2_with fail
          go_round
          case rel => exact ⟨k + 1, by omega, by go_num⟩
          case measure => simp [intOf]; omega
        · obtain rfl : k = p.length := by omega
          go_wp2_with fail
          go_loop [12] (fun i => ∃ k : Nat, k ≤ b.length ∧ i = .int .i64 k) (fun i => b.length - (intOf i).toNat)
          case atStart => exact ⟨0, Nat.zero_le _, rfl⟩
          case round =>
            obtain ⟨k, hk, rfl⟩ := hrel
            by_cases hkp : k < b.length
            · have hsl := run_take (P := Try.prog) 9 Try.underlying9 b k (by omega)
              go_wp2_with fail
              with_reducible refine (CO.out k hkp _).mono ?_
              rintro e w' ⟨rfl, rfl⟩
              go_wp2_with fail
              go_round
              case rel => exact ⟨k + 1, by omega, by go_num⟩
              case measure => simp [intOf]; omega
            · obtain rfl : k = b.length := by omega
              go_wp2_with fail
              go_loop [15] (fun i => ∃ k : Nat, k ≤ t.length ∧ i = .int .i64 k) (fun i => t.length - (intOf i).toNat)
              case atStart => exact ⟨0, Nat.zero_le _, rfl⟩
              case round =>
                obtain ⟨k, hk, rfl⟩ := hrel
                by_cases hkp : k < t.length
                · have hsl := run_take (P := Try.prog) 9 Try.underlying9 t k (by omega)
                  go_wp2_with fail
                  with_reducible refine (CX.out k hkp _).mono ?_
                  rintro e w' ⟨rfl, rfl⟩
                  go_wp2_with fail
                  go_round
                  case rel => exact ⟨k + 1, by omega, by go_num⟩
                  case measure => simp [intOf]; omega
                · obtain rfl : k = t.length := by omega
                  go_wp2_with fail
                  with_reducible refine (does1 _).mono ?_
                  rintro e w5 ⟨rfl, hb5⟩
                  go_wp2_with fail
                  go_ret
                  exact ⟨rfl, below_step (below_step (below_step hb1 hb2) hb3) hb5⟩

end Go.Proofs.Ytpbdmldooehafaa
