/- Layer 8: keys.Parse, by a contract. -/
import Derived.Test.YtjlddackpckmfaaKeysP
namespace Go.Proofs.Ytjlddackpckmfaa
set_option linter.unusedVariables false
open Go Go.RowKit Go.Sort
attribute [local go_sem ↓] run_index_S
attribute [local go_sem] S_append S_extract

def ptC (p : M.Pt) : Array Value := #[.int .u8 (p.kind : Nat), .int .i64 (p.trace : Nat), .int .i64 (p.id : Nat), .int .i64 (p.start : Nat), .string (S p.svc), .string (S p.host)]
abbrev pt0 : Array Value := #[.int .u8 0, .int .i64 0, .int .i64 0, .int .i64 0, .string ⟨#[]⟩, .string ⟨#[]⟩]
def ptR (r : Option M.Pt) : Value := .tuple #[.agg (ptC (r.getD ⟨0, 0, 0, 0, [], []⟩)), .bool r.isSome]
theorem ptR_none : ptR none = .tuple #[.agg pt0, .bool false] := rfl
theorem numsP_none {kind : Nat} {r a b : List UInt8} {st : Nat} (h : M.ofBigs r 0 = none ∨ M.ofBigs r 8 = none) : M.numsP kind r a b st = none := by
  unfold M.numsP
  rcases h with h | h
  · rw [h]
  · rw [h]; cases M.ofBigs r 0 <;> rfl
theorem numsP_if {kind : Nat} {r a b : List UInt8} {st t i : Nat} (h : M.ofBigs r 0 = some t) (k : M.ofBigs r 8 = some i) : M.numsP kind r a b st = if r.length = 16 ∧ M.idB t = true ∧ M.idB i = true then some ⟨kind, t, i, st, a, b⟩ else none := by
  unfold M.numsP
  rw [h, k]

set_option maxHeartbeats 2000000 in
set_option maxRecDepth 100000 in
theorem parse_a (rest : List UInt8) (hl : rest.length ≤ 140737488351232) (w : World) :
    Calls Try.prog 36 #[.string (S (115 :: rest))] w fun e w' => e = .returned (ptR (M.parse (115 :: rest))) ∧ Below w.heap.size w w' := by
  have hpar : M.parse (115 :: rest) = M.numsP 115 rest [] [] 0 := by rw [M.parse, if_pos rfl]
  rw [hpar]
  clear hpar
  have b115 : B [115] 0 = 115 := rfl
  have CP := Lib.hid (fun W => cutPrefix_yes 115 rest W)
  have HP0 := Lib.hid (rowIn_at pt0 65 (w.alloc (.cells pt0 65)) (w.heap.size + 1) (by simp))
  have HR1 := Lib.hid (((rowIn_new pt0 65 w).more (.cells pt0 65)).rowAbove (c := w.heap.size + 1) (D := #[.int .u8 115, .int .i64 0, .int .i64 0, .int .i64 0, .string ⟨#[]⟩, .string ⟨#[]⟩]) (by omega))
  have HP1 := Lib.hid (HP0.out.row (D := #[.int .u8 115, .int .i64 0, .int .i64 0, .int .i64 0, .string ⟨#[]⟩, .string ⟨#[]⟩]))
  have HB1 := Lib.hid (below_setRow (g := w.heap.size + 1) (((Below.refl w.heap.size w).alloc (Nat.le_refl _) (.cells pt0 65)).alloc (by simp) (.cells pt0 65)) (by omega) #[.int .u8 115, .int .i64 0, .int .i64 0, .int .i64 0, .string ⟨#[]⟩, .string ⟨#[]⟩])
  have co1 := fun W => ofBig_any rest 0 W (by omega)
  have co2 := fun W => ofBig_any rest 8 W (by omega)
  cases ho1 : M.ofBigs rest 0 with
  | none =>
    rw [ho1] at co1
    rw [numsP_none (.inl ho1), ptR_none]
    cases ho2 : M.ofBigs rest 8 with
    | none =>
      rw [ho2] at co2
      simp only [duo] at co1 co2
      have CO1 := Lib.hid co1
      have CO2 := Lib.hid co2
      clear co1 co2
      go_enter Try.func36, Try.ntmps36
      go_wp2_with (refine wpList_store_row rfl 65 _ _ rfl (w.heap.size + 1) _ rfl rfl 65 pt0 HP0.out ?_ rfl ?_ ?_; kernel_rfl; simp [Value.oneCell'])
      generalize ((w.alloc (.cells pt0 65)).alloc (.cells pt0 65)).setRow (w.heap.size + 1) #[.int .u8 115, .int .i64 0, .int .i64 0, .int .i64 0, .string ⟨#[]⟩, .string ⟨#[]⟩] = W1 at *
      with_reducible refine (CP.out _).mono ?_
      rintro e w1 ⟨rfl, rfl⟩
      go_wp2_with (refine wpList_store_row rfl 65 _ _ rfl w.heap.size _ rfl rfl 65 pt0 HR1.out ?_ rfl ?_ ?_; kernel_rfl; simp [Value.oneCell'])
      repeat (first | ((with_reducible refine (CO1.out _).mono ?_); rintro e w1 ⟨rfl, rfl⟩; go_wp2_with (refine wpList_store_row rfl 65 _ _ rfl w.heap.size _ rfl rfl 65 pt0 HR1.out ?_ rfl ?_ ?_; kernel_rfl; simp [Value.oneCell'])) | ((with_reducible refine (CO2.out _).mono ?_); rintro e w1 ⟨rfl, rfl⟩; go_wp2_with (refine wpList_store_row rfl 65 _ _ rfl w.heap.size _ rfl rfl 65 pt0 HR1.out ?_ rfl ?_ ?_; kernel_rfl; simp [Value.oneCell'])))
      try simp only [Exit.inBlock, Exit.then]
      exact bodyPost_ret (ret_row2 Try.underlying65 (by kernel_rfl) rfl _ _ w.heap.size rfl HR1.out.row) rfl ⟨rfl, below_setRow HB1.out (Nat.le_refl _) _⟩
    | some i =>
      rw [ho2] at co2
      simp only [duo] at co1 co2
      have CO1 := Lib.hid co1
      have CO2 := Lib.hid co2
      clear co1 co2
      go_enter Try.func36, Try.ntmps36
      go_wp2_with (refine wpList_store_row rfl 65 _ _ rfl (w.heap.size + 1) _ rfl rfl 65 pt0 HP0.out ?_ rfl ?_ ?_; kernel_rfl; simp [Value.oneCell'])
      generalize ((w.alloc (.cells pt0 65)).alloc (.cells pt0 65)).setRow (w.heap.size + 1) #[.int .u8 115, .int .i64 0, .int .i64 0, .int .i64 0, .string ⟨#[]⟩, .string ⟨#[]⟩] = W1 at *
      with_reducible refine (CP.out _).mono ?_
      rintro e w1 ⟨rfl, rfl⟩
      go_wp2_with (refine wpList_store_row rfl 65 _ _ rfl w.heap.size _ rfl rfl 65 pt0 HR1.out ?_ rfl ?_ ?_; kernel_rfl; simp [Value.oneCell'])
      repeat (first | ((with_reducible refine (CO1.out _).mono ?_); rintro e w1 ⟨rfl, rfl⟩; go_wp2_with (refine wpList_store_row rfl 65 _ _ rfl w.heap.size _ rfl rfl 65 pt0 HR1.out ?_ rfl ?_ ?_; kernel_rfl; simp [Value.oneCell'])) | ((with_reducible refine (CO2.out _).mono ?_); rintro e w1 ⟨rfl, rfl⟩; go_wp2_with (refine wpList_store_row rfl 65 _ _ rfl w.heap.size _ rfl rfl 65 pt0 HR1.out ?_ rfl ?_ ?_; kernel_rfl; simp [Value.oneCell'])))
      try simp only [Exit.inBlock, Exit.then]
      exact bodyPost_ret (ret_row2 Try.underlying65 (by kernel_rfl) rfl _ _ w.heap.size rfl HR1.out.row) rfl ⟨rfl, below_setRow HB1.out (Nat.le_refl _) _⟩
  | some t =>
    rw [ho1] at co1
    cases ho2 : M.ofBigs rest 8 with
    | none =>
      rw [numsP_none (.inr ho2), ptR_none]
      rw [ho2] at co2
      simp only [duo] at co1 co2
      have CO1 := Lib.hid co1
      have CO2 := Lib.hid co2
      clear co1 co2
      go_enter Try.func36, Try.ntmps36
      go_wp2_with (refine wpList_store_row rfl 65 _ _ rfl (w.heap.size + 1) _ rfl rfl 65 pt0 HP0.out ?_ rfl ?_ ?_; kernel_rfl; simp [Value.oneCell'])
      generalize ((w.alloc (.cells pt0 65)).alloc (.cells pt0 65)).setRow (w.heap.size + 1) #[.int .u8 115, .int .i64 0, .int .i64 0, .int .i64 0, .string ⟨#[]⟩, .string ⟨#[]⟩] = W1 at *
      with_reducible refine (CP.out _).mono ?_
      rintro e w1 ⟨rfl, rfl⟩
      go_wp2_with (refine wpList_store_row rfl 65 _ _ rfl w.heap.size _ rfl rfl 65 pt0 HR1.out ?_ rfl ?_ ?_; kernel_rfl; simp [Value.oneCell'])
      repeat (first | ((with_reducible refine (CO1.out _).mono ?_); rintro e w1 ⟨rfl, rfl⟩; go_wp2_with (refine wpList_store_row rfl 65 _ _ rfl w.heap.size _ rfl rfl 65 pt0 HR1.out ?_ rfl ?_ ?_; kernel_rfl; simp [Value.oneCell'])) | ((with_reducible refine (CO2.out _).mono ?_); rintro e w1 ⟨rfl, rfl⟩; go_wp2_with (refine wpList_store_row rfl 65 _ _ rfl w.heap.size _ rfl rfl 65 pt0 HR1.out ?_ rfl ?_ ?_; kernel_rfl; simp [Value.oneCell'])))
      try simp only [Exit.inBlock, Exit.then]
      exact bodyPost_ret (ret_row2 Try.underlying65 (by kernel_rfl) rfl _ _ w.heap.size rfl HR1.out.row) rfl ⟨rfl, below_setRow HB1.out (Nat.le_refl _) _⟩
    | some i =>
      rw [ho2] at co2
      rw [numsP_if ho1 ho2]
      by_cases hlen : rest.length = 16
      · have ci1 := fun W => isID_any (t : Int) W
        have ci2 := fun W => isID_any (i : Int) W
        have q1 : ((rest.length : Int) != 16) = false := by rw [hlen]; rfl
        cases hi1 : M.idB t with
        | false =>
          rw [if_neg (by simp), ptR_none]
          rw [hi1] at ci1
          have CI1 := Lib.hid ci1
          clear ci1 ci2
          simp only [duo] at co1 co2
          have CO1 := Lib.hid co1
          have CO2 := Lib.hid co2
          clear co1 co2
          go_enter Try.func36, Try.ntmps36
          go_wp2_with (refine wpList_store_row rfl 65 _ _ rfl (w.heap.size + 1) _ rfl rfl 65 pt0 HP0.out ?_ rfl ?_ ?_; kernel_rfl; simp [Value.oneCell'])
          generalize ((w.alloc (.cells pt0 65)).alloc (.cells pt0 65)).setRow (w.heap.size + 1) #[.int .u8 115, .int .i64 0, .int .i64 0, .int .i64 0, .string ⟨#[]⟩, .string ⟨#[]⟩] = W1 at *
          with_reducible refine (CP.out _).mono ?_
          rintro e w1 ⟨rfl, rfl⟩
          go_wp2_with (refine wpList_store_row rfl 65 _ _ rfl w.heap.size _ rfl rfl 65 pt0 HR1.out ?_ rfl ?_ ?_; kernel_rfl; simp [Value.oneCell'])
          repeat (first | ((with_reducible refine (CO1.out _).mono ?_); rintro e w1 ⟨rfl, rfl⟩; go_wp2_with (refine wpList_store_row rfl 65 _ _ rfl w.heap.size _ rfl rfl 65 pt0 HR1.out ?_ rfl ?_ ?_; kernel_rfl; simp [Value.oneCell'])) | ((with_reducible refine (CO2.out _).mono ?_); rintro e w1 ⟨rfl, rfl⟩; go_wp2_with (refine wpList_store_row rfl 65 _ _ rfl w.heap.size _ rfl rfl 65 pt0 HR1.out ?_ rfl ?_ ?_; kernel_rfl; simp [Value.oneCell'])) | ((with_reducible refine (CI1.out _).mono ?_); rintro e w1 ⟨rfl, rfl⟩; go_wp2_with (refine wpList_store_row rfl 65 _ _ rfl w.heap.size _ rfl rfl 65 pt0 HR1.out ?_ rfl ?_ ?_; kernel_rfl; simp [Value.oneCell'])))
          try simp only [Exit.inBlock, Exit.then]
          exact bodyPost_ret (ret_row2 Try.underlying65 (by kernel_rfl) rfl _ _ w.heap.size rfl HR1.out.row) rfl ⟨rfl, below_setRow HB1.out (Nat.le_refl _) _⟩
        | true =>
          rw [hi1] at ci1
          have CI1 := Lib.hid ci1
          cases hi2 : M.idB i with
          | false =>
            rw [if_neg (by simp), ptR_none]
            rw [hi2] at ci2
            have CI2 := Lib.hid ci2
            clear ci1 ci2
            simp only [duo] at co1 co2
            have CO1 := Lib.hid co1
            have CO2 := Lib.hid co2
            clear co1 co2
            go_enter Try.func36, Try.ntmps36
            go_wp2_with (refine wpList_store_row rfl 65 _ _ rfl (w.heap.size + 1) _ rfl rfl 65 pt0 HP0.out ?_ rfl ?_ ?_; kernel_rfl; simp [Value.oneCell'])
            generalize ((w.alloc (.cells pt0 65)).alloc (.cells pt0 65)).setRow (w.heap.size + 1) #[.int .u8 115, .int .i64 0, .int .i64 0, .int .i64 0, .string ⟨#[]⟩, .string ⟨#[]⟩] = W1 at *
            with_reducible refine (CP.out _).mono ?_
            rintro e w1 ⟨rfl, rfl⟩
            go_wp2_with (refine wpList_store_row rfl 65 _ _ rfl w.heap.size _ rfl rfl 65 pt0 HR1.out ?_ rfl ?_ ?_; kernel_rfl; simp [Value.oneCell'])
            repeat (first | ((with_reducible refine (CO1.out _).mono ?_); rintro e w1 ⟨rfl, rfl⟩; go_wp2_with (refine wpList_store_row rfl 65 _ _ rfl w.heap.size _ rfl rfl 65 pt0 HR1.out ?_ rfl ?_ ?_; kernel_rfl; simp [Value.oneCell'])) | ((with_reducible refine (CO2.out _).mono ?_); rintro e w1 ⟨rfl, rfl⟩; go_wp2_with (refine wpList_store_row rfl 65 _ _ rfl w.heap.size _ rfl rfl 65 pt0 HR1.out ?_ rfl ?_ ?_; kernel_rfl; simp [Value.oneCell'])) | ((with_reducible refine (CI1.out _).mono ?_); rintro e w1 ⟨rfl, rfl⟩; go_wp2_with (refine wpList_store_row rfl 65 _ _ rfl w.heap.size _ rfl rfl 65 pt0 HR1.out ?_ rfl ?_ ?_; kernel_rfl; simp [Value.oneCell'])) | ((with_reducible refine (CI2.out _).mono ?_); rintro e w1 ⟨rfl, rfl⟩; go_wp2_with (refine wpList_store_row rfl 65 _ _ rfl w.heap.size _ rfl rfl 65 pt0 HR1.out ?_ rfl ?_ ?_; kernel_rfl; simp [Value.oneCell'])))
            try simp only [Exit.inBlock, Exit.then]
            exact bodyPost_ret (ret_row2 Try.underlying65 (by kernel_rfl) rfl _ _ w.heap.size rfl HR1.out.row) rfl ⟨rfl, below_setRow HB1.out (Nat.le_refl _) _⟩
          | true =>
            rw [if_pos ⟨hlen, rfl, rfl⟩]
            rw [hi2] at ci2
            have CI2 := Lib.hid ci2
            clear ci1 ci2
            have HP2 := HP1.out.set 1 (.int .i64 (t : Int))
            have HP3 := Lib.hid (show RowIn #[.int .u8 115, .int .i64 (t : Int), .int .i64 (i : Int), .int .i64 0, .string ⟨#[]⟩, .string ⟨#[]⟩] 65 _ (w.heap.size + 1) from HP2.set 2 (.int .i64 (i : Int)))
            have HR3 := Lib.hid ((HR1.out.other (show w.heap.size ≠ w.heap.size + 1 by omega) 1 (.int .i64 (t : Int))).other (show w.heap.size ≠ w.heap.size + 1 by omega) 2 (.int .i64 (i : Int)))
            have HB3 := Lib.hid ((HB1.out.setCell (p := ⟨w.heap.size + 1, 1, none⟩) (by simp) (.int .i64 (t : Int))).setCell (p := ⟨w.heap.size + 1, 2, none⟩) (by simp) (.int .i64 (i : Int)))
            have k1 := HP1.out.cell 1
            have k2 := HP2.cell 2
            have f1 := HP1.out.free 1
            have f2 := HP2.free 2
            simp at k1 k2
            clear HP2
            simp only [duo] at co1 co2
            have CO1 := Lib.hid co1
            have CO2 := Lib.hid co2
            clear co1 co2
            go_enter Try.func36, Try.ntmps36
            go_wp2_with (refine wpList_store_row rfl 65 _ _ rfl (w.heap.size + 1) _ rfl rfl 65 pt0 HP0.out ?_ rfl ?_ ?_; kernel_rfl; simp [Value.oneCell'])
            generalize ((w.alloc (.cells pt0 65)).alloc (.cells pt0 65)).setRow (w.heap.size + 1) #[.int .u8 115, .int .i64 0, .int .i64 0, .int .i64 0, .string ⟨#[]⟩, .string ⟨#[]⟩] = W1 at *
            with_reducible refine (CP.out _).mono ?_
            rintro e w1 ⟨rfl, rfl⟩
            go_wp2_with (first | (refine wpList_load_row rfl 65 _ rfl (w.heap.size + 1) rfl 65 _ (0, 0) _ HP3.out Try.underlying65 rfl ?_ ?_; kernel_rfl) | (refine wpList_store_row rfl 65 _ _ rfl w.heap.size _ rfl rfl 65 pt0 HR3.out ?_ rfl ?_ ?_; kernel_rfl; simp [Value.oneCell']))
            repeat (first | ((with_reducible refine (CO1.out _).mono ?_); rintro e w1 ⟨rfl, rfl⟩; go_wp2_with (first | (refine wpList_load_row rfl 65 _ rfl (w.heap.size + 1) rfl 65 _ (0, 0) _ HP3.out Try.underlying65 rfl ?_ ?_; kernel_rfl) | (refine wpList_store_row rfl 65 _ _ rfl w.heap.size _ rfl rfl 65 pt0 HR3.out ?_ rfl ?_ ?_; kernel_rfl; simp [Value.oneCell']))) | ((with_reducible refine (CO2.out _).mono ?_); rintro e w1 ⟨rfl, rfl⟩; go_wp2_with (first | (refine wpList_load_row rfl 65 _ rfl (w.heap.size + 1) rfl 65 _ (0, 0) _ HP3.out Try.underlying65 rfl ?_ ?_; kernel_rfl) | (refine wpList_store_row rfl 65 _ _ rfl w.heap.size _ rfl rfl 65 pt0 HR3.out ?_ rfl ?_ ?_; kernel_rfl; simp [Value.oneCell']))) | ((with_reducible refine (CI1.out _).mono ?_); rintro e w1 ⟨rfl, rfl⟩; go_wp2_with (first | (refine wpList_load_row rfl 65 _ rfl (w.heap.size + 1) rfl 65 _ (0, 0) _ HP3.out Try.underlying65 rfl ?_ ?_; kernel_rfl) | (refine wpList_store_row rfl 65 _ _ rfl w.heap.size _ rfl rfl 65 pt0 HR3.out ?_ rfl ?_ ?_; kernel_rfl; simp [Value.oneCell']))) | ((with_reducible refine (CI2.out _).mono ?_); rintro e w1 ⟨rfl, rfl⟩; go_wp2_with (first | (refine wpList_load_row rfl 65 _ rfl (w.heap.size + 1) rfl 65 _ (0, 0) _ HP3.out Try.underlying65 rfl ?_ ?_; kernel_rfl) | (refine wpList_store_row rfl 65 _ _ rfl w.heap.size _ rfl rfl 65 pt0 HR3.out ?_ rfl ?_ ?_; kernel_rfl; simp [Value.oneCell']))))
            try simp only [Exit.inBlock, Exit.then]
            exact bodyPost_ret (ret_row2 Try.underlying65 (by kernel_rfl) rfl _ _ w.heap.size rfl (HR3.out.row (D := #[.int .u8 115, .int .i64 (t : Int), .int .i64 (i : Int), .int .i64 0, .string ⟨#[]⟩, .string ⟨#[]⟩]))) rfl ⟨rfl, below_setRow HB3.out (Nat.le_refl _) _⟩
      · rw [if_neg (fun h => hlen h.1), ptR_none]
        have q1 : ((rest.length : Int) != 16) = true := by rw [bne, show ((rest.length : Int) == 16) = false by rw [beq_eq_false_iff_ne]; omega]; rfl
        simp only [duo] at co1 co2
        have CO1 := Lib.hid co1
        have CO2 := Lib.hid co2
        clear co1 co2
        go_enter Try.func36, Try.ntmps36
        go_wp2_with (refine wpList_store_row rfl 65 _ _ rfl (w.heap.size + 1) _ rfl rfl 65 pt0 HP0.out ?_ rfl ?_ ?_; kernel_rfl; simp [Value.oneCell'])
        generalize ((w.alloc (.cells pt0 65)).alloc (.cells pt0 65)).setRow (w.heap.size + 1) #[.int .u8 115, .int .i64 0, .int .i64 0, .int .i64 0, .string ⟨#[]⟩, .string ⟨#[]⟩] = W1 at *
        with_reducible refine (CP.out _).mono ?_
        rintro e w1 ⟨rfl, rfl⟩
        go_wp2_with (refine wpList_store_row rfl 65 _ _ rfl w.heap.size _ rfl rfl 65 pt0 HR1.out ?_ rfl ?_ ?_; kernel_rfl; simp [Value.oneCell'])
        repeat (first | ((with_reducible refine (CO1.out _).mono ?_); rintro e w1 ⟨rfl, rfl⟩; go_wp2_with (refine wpList_store_row rfl 65 _ _ rfl w.heap.size _ rfl rfl 65 pt0 HR1.out ?_ rfl ?_ ?_; kernel_rfl; simp [Value.oneCell'])) | ((with_reducible refine (CO2.out _).mono ?_); rintro e w1 ⟨rfl, rfl⟩; go_wp2_with (refine wpList_store_row rfl 65 _ _ rfl w.heap.size _ rfl rfl 65 pt0 HR1.out ?_ rfl ?_ ?_; kernel_rfl; simp [Value.oneCell'])))
        try simp only [Exit.inBlock, Exit.then]
        exact bodyPost_ret (ret_row2 Try.underlying65 (by kernel_rfl) rfl _ _ w.heap.size rfl HR1.out.row) rfl ⟨rfl, below_setRow HB1.out (Nat.le_refl _) _⟩

end Go.Proofs.Ytjlddackpckmfaa
