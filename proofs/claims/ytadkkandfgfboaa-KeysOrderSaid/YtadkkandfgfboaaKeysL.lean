/- Layer 8: keys.Row, does, by contracts; the laws' walks: KeysStretch. -/
import Derived.Test.YtadkkandfgfboaaKeysP3
namespace Go.Proofs.Ytadkkandfgfboaa
set_option linter.unusedVariables false
open Go Go.RowKit Go.Sort
attribute [local go_sem ↓] run_index_S
attribute [local go_sem] S_append S_extract

set_option maxHeartbeats 1000000 in
theorem keyRow_any (l : List UInt8) (hl : l.length ≤ 140737488351232) (w : World) :
    Calls Try.prog 22 #[.string (S l)] w fun e w' => e = .returned (.string (S (M.rowK l))) ∧ Below w.heap.size w w' := by
  have cp := fun W => parse_any l hl W
  cases hp : M.parse l with
  | none =>
    rw [M.rowK, hp]
    rw [hp, ptR_none] at cp
    have CP := Lib.hid cp
    clear cp hp
    go_enter Try.func22, Try.ntmps22
    go_wp2_with fail
    with_reducible refine (CP.out _).mono ?_
    rintro e w1 ⟨rfl, hb1⟩
    have HX := Lib.hid (rowIn_new pt0 36 w1)
    have HB := Lib.hid (below_setRow (g := w1.heap.size) (hb1.alloc hb1.size (.cells pt0 36)) hb1.size pt0)
    clear hb1
    go_wp2_with ((with_reducible show wpList _ _ _ _ _ _); refine wpList_store_row rfl 36 _ _ rfl w1.heap.size _ rfl rfl 36 pt0 HX.out ?_ rfl ?_ ?_; kernel_rfl; simp [Value.oneCell'])
    go_ret
    exact ⟨rfl, HB.out⟩
  | some p =>
    have hps := M.parse_some hp
    rw [M.rowK, hp]
    rw [hp] at cp
    have cp2 : ∀ W, Calls Try.prog 19 #[.string (S l)] W fun e w' => e = .returned (.tuple #[.agg #[.int .u8 (p.kind : Nat), .int .i64 (p.trace : Nat), .int .i64 (p.id : Nat), .int .i64 (p.start : Nat), .string (S p.svc), .string (S p.host)], .bool true]) ∧ Below W.heap.size W w' := cp
    have CP := Lib.hid cp2
    clear cp cp2 hp
    have b115 : B [115] 0 = 115 := rfl
    rcases hps with ⟨_, _, ⟨hk, hl17, hrest⟩ | ⟨hk, hrest⟩⟩
    · simp only [hk, if_true]
      have q : (((p.kind : Nat) : Int) == 115) = true := by rw [hk]; rfl
      have h17 : l.length = 17 := by rw [hl17]; simp [M.spanK, M.bigN_length]
      have sl := fun W k => run_piece_to (P := Try.prog) 9 Try.underlying9 l 9 9 rfl (by omega) W k
      clear hk hl17 h17 hrest
      generalize p.kind = pk at *
      generalize p.trace = p1 at *
      generalize p.id = p2 at *
      generalize p.start = p3 at *
      generalize p.svc = p4 at *
      generalize p.host = p5 at *
      go_enter Try.func22, Try.ntmps22
      go_wp2_with fail
      with_reducible refine (CP.out _).mono ?_
      rintro e w1 ⟨rfl, hb1⟩
      have HX := Lib.hid (rowIn_new pt0 36 w1)
      have hc : (((w1.alloc (.cells pt0 36))).setRow w1.heap.size #[.int .u8 (pk : Nat), .int .i64 (p1 : Nat), .int .i64 (p2 : Nat), .int .i64 (p3 : Nat), .string (S p4), .string (S p5)]).cell? ⟨w1.heap.size, 0, none⟩ = some (.int .u8 (pk : Nat)) := (HX.out.row).cell 0
      have HB := Lib.hid (below_setRow (g := w1.heap.size) (hb1.alloc hb1.size (.cells pt0 36)) hb1.size #[.int .u8 (pk : Nat), .int .i64 (p1 : Nat), .int .i64 (p2 : Nat), .int .i64 (p3 : Nat), .string (S p4), .string (S p5)])
      clear hb1
      go_wp2_with ((with_reducible show wpList _ _ _ _ _ _); refine wpList_store_row rfl 36 _ _ rfl w1.heap.size _ rfl rfl 36 pt0 HX.out ?_ rfl ?_ ?_; kernel_rfl; simp [Value.oneCell'])
      go_quiet (fail)
      go_wp2_with fail
      go_ret
      exact ⟨rfl, below_drewN HB.out _⟩
    · simp only [hk, show ¬ (120 : Nat) = 115 by decide, if_false]
      have q : (((p.kind : Nat) : Int) == 115) = false := by rw [hk]; rfl
      clear hk hrest
      generalize p.kind = pk at *
      generalize p.trace = p1 at *
      generalize p.id = p2 at *
      generalize p.start = p3 at *
      generalize p.svc = p4 at *
      generalize p.host = p5 at *
      go_enter Try.func22, Try.ntmps22
      go_wp2_with fail
      with_reducible refine (CP.out _).mono ?_
      rintro e w1 ⟨rfl, hb1⟩
      have HX := Lib.hid (rowIn_new pt0 36 w1)
      have hc : (((w1.alloc (.cells pt0 36))).setRow w1.heap.size #[.int .u8 (pk : Nat), .int .i64 (p1 : Nat), .int .i64 (p2 : Nat), .int .i64 (p3 : Nat), .string (S p4), .string (S p5)]).cell? ⟨w1.heap.size, 0, none⟩ = some (.int .u8 (pk : Nat)) := (HX.out.row).cell 0
      have HB := Lib.hid (below_setRow (g := w1.heap.size) (hb1.alloc hb1.size (.cells pt0 36)) hb1.size #[.int .u8 (pk : Nat), .int .i64 (p1 : Nat), .int .i64 (p2 : Nat), .int .i64 (p3 : Nat), .string (S p4), .string (S p5)])
      clear hb1
      go_wp2_with ((with_reducible show wpList _ _ _ _ _ _); refine wpList_store_row rfl 36 _ _ rfl w1.heap.size _ rfl rfl 36 pt0 HX.out ?_ rfl ?_ ?_; kernel_rfl; simp [Value.oneCell'])
      go_quiet (fail)
      go_wp2_with fail
      go_ret
      exact ⟨rfl, below_drewN HB.out _⟩

theorem k_of : M.ofK 5 258 = [115, 0, 0, 0, 0, 0, 0, 0, 5, 0, 0, 0, 0, 0, 0, 1, 2] := by decide +kernel
theorem k_from : M.fromK 5 = [115, 0, 0, 0, 0, 0, 0, 0, 5] := by decide +kernel
theorem k_to : M.toK 5 = [115, 0, 0, 0, 0, 0, 0, 0, 6] := by decide +kernel
def k_sp : M.Sp := ⟨5, 1, 0, [97], [104], 5, 0, []⟩
theorem k_idx : M.idxK k_sp = [120, 97, 0, 104, 0, 0, 0, 0, 0, 0, 0, 0, 5, 0, 0, 0, 0, 0, 0, 0, 5, 0, 0, 0, 0, 0, 0, 0, 1] := by decide +kernel
theorem k_fit : k_sp.fits := by constructor <;> decide
theorem k_fs : M.fromS [97] [104] (-3) 4 = [120, 97, 0, 104, 0, 0, 0, 0, 0, 0, 0, 0, 0] := by decide +kernel
theorem k_ts : M.toS [97] [104] (-3) 4 = [120, 97, 0, 104, 0, 0, 0, 0, 0, 0, 0, 0, 5] := by decide +kernel
theorem k_row : M.rowK [115, 0, 0, 0, 0, 0, 0, 0, 5, 0, 0, 0, 0, 0, 0, 1, 2] = [115, 0, 0, 0, 0, 0, 0, 0, 5] := by
  have := M.parse_span 5 258 (by decide) (by decide)
  rw [show M.spanK 5 258 = [115, 0, 0, 0, 0, 0, 0, 0, 5, 0, 0, 0, 0, 0, 0, 1, 2] by decide +kernel] at this
  rw [M.rowK, this]
  rfl
theorem k_abc : M.rowK [97, 98, 99] = [] := rfl

set_option maxHeartbeats 2000000 in
set_option maxRecDepth 100000 in
theorem does8 (w : World) : Calls Try.prog 16 #[] w fun e w' => e = .returned (.bool true) ∧ Below w.heap.size w w' := by
  have c1 := fun W => of_any 5 258 W
  rw [k_of, show M.errOf (M.okOf 5 258) = 0 by decide] at c1
  have c2 := fun W => trace_any 5 W
  rw [k_from, k_to] at c2
  have c3 : ∀ W, Calls Try.prog 12 #[.agg #[.int .i64 5, .int .i64 1, .int .i64 0, .string ⟨#[97]⟩, .string ⟨#[104]⟩, .int .i64 5, .int .i64 0, .string ⟨#[]⟩]] W fun e w' => e = .returned (.tuple #[.string (S [120, 97, 0, 104, 0, 0, 0, 0, 0, 0, 0, 0, 5, 0, 0, 0, 0, 0, 0, 0, 5, 0, 0, 0, 0, 0, 0, 0, 1]), .int .i64 0]) ∧ Below W.heap.size W w' := fun W => by
    have := index_any k_sp k_fit W
    rw [k_idx, show M.errOf (M.mayB k_sp) = 0 by decide +kernel] at this
    exact this
  have c4 := fun W => stretch_any [97] [104] (by decide) (by decide) (-3) 4 W
  rw [k_fs, k_ts] at c4
  have c5 := fun W => keyRow_any [115, 0, 0, 0, 0, 0, 0, 0, 5, 0, 0, 0, 0, 0, 0, 1, 2] (by decide) W
  rw [k_row] at c5
  have c6 := fun W => keyRow_any [97, 98, 99] (by decide) W
  rw [k_abc] at c6
  have C1 := Lib.hid c1
  have C2 := Lib.hid c2
  have C3 := Lib.hid c3
  have C4 := Lib.hid c4
  have C5 := Lib.hid c5
  have C6 := Lib.hid c6
  clear c1 c2 c3 c4 c5 c6
  go_enter Try.func16, Try.ntmps16
  go_wp2_with fail
  with_reducible refine (C1.out _).mono ?_
  rintro e w1 ⟨rfl, hb1⟩
  go_wp2_with fail
  with_reducible refine (C2.out _).mono ?_
  rintro e w2 ⟨rfl, hb2⟩
  have HB2 := Lib.hid (below_step hb1 hb2)
  clear hb1 hb2
  go_wp2_with fail
  with_reducible refine (C3.out _).mono ?_
  rintro e w3 ⟨rfl, hb3⟩
  have HB3 := Lib.hid (below_step HB2.out hb3)
  clear hb3
  go_wp2_with fail
  with_reducible refine (C4.out _).mono ?_
  rintro e w4 ⟨rfl, hb4⟩
  have HB4 := Lib.hid (below_step HB3.out hb4)
  clear hb4
  go_wp2_with fail
  with_reducible refine (C5.out _).mono ?_
  rintro e w5 ⟨rfl, hb5⟩
  have HB5 := Lib.hid (below_step HB4.out hb5)
  clear hb5
  go_wp2_with fail
  with_reducible refine (C6.out _).mono ?_
  rintro e w6 ⟨rfl, hb6⟩
  go_wp2_with fail
  go_ret
  exact ⟨rfl, below_step HB5.out hb6⟩

end Go.Proofs.Ytadkkandfgfboaa
