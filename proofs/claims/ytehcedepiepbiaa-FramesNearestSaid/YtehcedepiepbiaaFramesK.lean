/- Layer 4: known, by a contract. -/
import Derived.Test.YtehcedepiepbiaaFramesN
import Derived.Test.YtehcedepiepbiaaFramesT
import Derived.Test.YtehcedepiepbiaaFramesU
import Derived.Test.YtehcedepiepbiaaFramesS
namespace Go.Proofs.Ytehcedepiepbiaa
set_option linter.unusedVariables false
open Go Go.RowKit
attribute [local go_sem ↓] run_index_S
attribute [local go_sem] S_append S_extract

/-- 'make([]byte, n)'. -/
theorem make_bytes {P : Program} (w : World) (t e : TypeId) (ht : P.underlying t = some (.slice e)) (he : (P.info? e).map (fun i => (i.zero, i.size, i.bytes)) = some (some (.int .u8 0), 1, 1)) (n : Nat) (hn : n ≤ 281474976710656) (kl kc : IntKind) :
    ∃ C : Array Value, (Instr.makeSlice t (.int kl (n : Int)) (.int kc (n : Int))).run P w = .ok (.slice (some ⟨w.heap.size, 0, none⟩) n n) (w.alloc (.cells C e)) ∧ C.size = n ∧ ∀ j, j < n → C[j]? = some (.int .u8 0) := by
  obtain ⟨i, hi, hz, h1, h2⟩ := info_parts he
  have hr := run_make (P := P) w t e i _ ht hi hz kl kc n n (by omega) (by omega) (by rw [h2]; omega) (by omega)
  rw [h1, Nat.mul_one] at hr
  simp only [Int.toNat_natCast] at hr
  refine ⟨_, hr, by simp [size_madeCells], fun j hj => ?_⟩
  simp [madeCells, Value.cells, hj, Nat.mod_one]

theorem zeros_at (n : Nat) : ∃ l : List UInt8, l.length = n ∧ ∀ j (h : j < l.length), l[j] = 0 :=
  ⟨List.replicate n 0, List.length_replicate, fun j h => by simp⟩

/-- What the chapter shows: by the mathematics. -/
theorem known_frame : M.frameP [97] = [2, 0, 1, 97, 0, 98, 0, 98, 3] := by decide +kernel
theorem known_next : M.next [2, 0, 1, 97, 0, 98, 0, 98, 3] 0 = some ([97], 9) := by
  have := M.next_frame [97] (by decide)
  rwa [known_frame] at this
theorem known_no : M.next [2, 0, 1, 97, 0, 98, 0, 98, 3] 1 = none := M.next_no fun h => absurd h.two (by decide)
theorem known_whole : M.wh [2, 0, 1, 97, 0, 98, 0, 98, 3, 2, 0, 1, 97, 0, 98, 0, 98, 3, 2, 0, 1, 97] 0 = ([[97], [97]], 18) := by
  have h1 := (M.next_at [] [97] [2, 0, 1, 97, 0, 98, 0, 98, 3, 2, 0, 1, 97] (by decide)).2
  have h2 := (M.next_at [2, 0, 1, 97, 0, 98, 0, 98, 3] [97] [2, 0, 1, 97] (by decide)).2
  rw [known_frame] at h1 h2
  have h3 : M.next [2, 0, 1, 97, 0, 98, 0, 98, 3, 2, 0, 1, 97, 0, 98, 0, 98, 3, 2, 0, 1, 97] 18 = none := M.next_no fun h => absurd h.room (by decide)
  have h1' : M.next [2, 0, 1, 97, 0, 98, 0, 98, 3, 2, 0, 1, 97, 0, 98, 0, 98, 3, 2, 0, 1, 97] 0 = some ([97], 9) := h1
  have h2' : M.next [2, 0, 1, 97, 0, 98, 0, 98, 3, 2, 0, 1, 97, 0, 98, 0, 98, 3, 2, 0, 1, 97] 9 = some ([97], 18) := h2
  rw [M.wh_some h1', M.wh_some h2', M.wh_none h3]
theorem known_at : M.Stands [120, 120, 2, 0, 1, 97, 0, 98, 0, 98, 3] 2 := by
  have h1 := (M.next_at [120, 120] [97] [] (by decide)).1
  rw [known_frame] at h1
  exact h1
theorem known_rs0 : M.rs [120, 120, 2, 0, 1, 97, 0, 98, 0, 98, 3] 0 = 2 := by
  rw [M.rs_no (fun h => absurd h.two (by decide)) (by decide), M.rs_no (fun h => absurd h.two (by decide)) (by decide), M.rs_yes known_at]
theorem known_rs3 : M.rs [120, 120, 2, 0, 1, 97, 0, 98, 0, 98, 3] 3 = 11 := by
  rw [M.rs_no (fun h => absurd h.two (by decide)) (by decide)]
  have := M.rs_skip [120, 120, 2, 0, 1, 97, 0, 98, 0, 98, 3] 4 7 (by decide) (fun i hi h => by have := h.room; simp at this; omega)
  rw [this, M.rs_end _ _ (by decide)]
  rfl

set_option maxHeartbeats 2000000 in
set_option maxRecDepth 100000 in
theorem known_any (w : World) : Calls Try.prog 12 #[] w fun e w' => e = .returned (.bool true) ∧ Below w.heap.size w w' := by
  have c1 := fun W => frame_ok [97] (by decide) W
  rw [known_frame] at c1
  have c2 := fun W => next_any [2, 0, 1, 97, 0, 98, 0, 98, 3] (by decide) 0 W
  rw [show M.nextI [2, 0, 1, 97, 0, 98, 0, 98, 3] 0 = some ([97], 9) from known_next] at c2
  have c3 := fun W => next_any [2, 0, 1, 97, 0, 98, 0, 98, 3] (by decide) 1 W
  rw [show M.nextI [2, 0, 1, 97, 0, 98, 0, 98, 3] 1 = none from known_no] at c3
  have c4 := fun W => whole_any [2, 0, 1, 97, 0, 98, 0, 98, 3, 2, 0, 1, 97, 0, 98, 0, 98, 3, 2, 0, 1, 97] (by decide) W
  rw [known_whole] at c4
  have c6 := fun W => resync_nat [120, 120, 2, 0, 1, 97, 0, 98, 0, 98, 3] (by decide) (-5) 0 (.inr ⟨by decide, rfl⟩) W
  rw [known_rs0] at c6
  have c7 := fun W => resync_nat [120, 120, 2, 0, 1, 97, 0, 98, 0, 98, 3] (by decide) 3 3 (.inl rfl) W
  rw [known_rs3] at c7
  simp only [triF] at c2 c3
  have C1 := Lib.hid c1
  have C2 := Lib.hid c2
  have C3 := Lib.hid c3
  have C4 := Lib.hid c4
  have C6 := Lib.hid c6
  have C7 := Lib.hid c7
  clear c1 c2 c3 c4 c6 c7
  go_enter Try.func12, Try.ntmps12
  go_wp2_with fail
  with_reducible refine (C1.out _).mono ?_
  rintro e w1 ⟨rfl, hb1⟩
  go_wp2_with fail
  with_reducible refine (C2.out _).mono ?_
  rintro e w2 ⟨rfl, hb2⟩
  have HB2 := Lib.hid (below_step hb1 hb2)
  clear hb1 hb2
  go_wp2_with fail
  with_reducible refine (C3.out _).mono ?_
  rintro e w3 ⟨rfl, hb3⟩
  have HB3 := Lib.hid (below_step HB2.out hb3)
  clear hb3
  go_wp2_with fail
  with_reducible refine (C4.out _).mono ?_
  rintro e w4 ⟨v4, rfl, hr4, hb4⟩
  have HB4 := Lib.hid (below_step HB3.out hb4)
  clear hb4
  obtain ⟨ao, cap, rfl, rt⟩ := txtRow_of hr4
  obtain ⟨C5, hmk, hs5, hc5⟩ := make_bytes (P := Try.prog) w4 35 5 Try.underlying35 (by kernel_rfl) 16385 (by decide) .i64 .i64
  rw [show ((16385 : Nat) : Int) = 16385 from rfl] at hmk
  obtain ⟨l5, hlen5, hz5⟩ := zeros_at 16385
  have hcv : (convert 35 9 (.slice (some ⟨w4.heap.size, 0, none⟩) 16385 16385)).run Try.prog (w4.alloc (.cells C5 5)) = .ok (.string (S l5)) (w4.alloc (.cells C5 5)) := by
    rw [← hlen5]
    refine run_convert_bytes_back _ 35 9 5 ⟨w4.heap.size, 0, none⟩ l5.length l5 Try.underlying35 Try.underlying5 Try.underlying9 (fun j hj => ?_)
    rw [Addr.add_lit, Nat.zero_add, cell_new, hc5 j (by omega)]
    rw [hz5 j hj]
    rfl
  have c5 := fun W => frame_long l5 (by omega) W
  have C5' := Lib.hid c5
  have HW5 := Lib.hid (HB4.out.alloc (by have := HB4.out.size; omega) (.cells C5 5))
  clear c5 hz5 hlen5 hs5 hc5
  have rt5 := rt.below ((Below.refl _ _).alloc (Nat.le_refl _) (.cells C5 5))
  go_wp2_with fail
  with_reducible refine (C5'.out _).mono ?_
  rintro e w5 ⟨rfl, rfl⟩
  clear hmk hcv
  go_wp2_with fail
  have rt6 := rt5.below ((Below.refl _ _).alloc (Nat.le_refl _) (.cells #[.string (S [97]), .string (S [97])] 9))
  have ru6 : TxtRow ((w4.alloc (.cells C5 5)).alloc (.cells #[.string (S [97]), .string (S [97])] 9)) (some ⟨w4.heap.size + 1, 0, none⟩) [[97], [97]] := by
    intro j hj
    refine ⟨_, rfl, ?_⟩
    have := cell_new (w := w4.alloc (.cells C5 5)) (C := #[.string (S [97]), .string (S [97])]) (t := 9) j
    rw [World.size_alloc] at this
    rw [this]
    match j, hj with
    | 0, _ => rfl
    | 1, _ => rfl
  have HW6 := Lib.hid (HW5.out.alloc (by have := HB4.out.size; simp; omega) (.cells #[.string (S [97]), .string (S [97])] 9))
  have c8 : Calls Try.prog 21 #[.slice ao 2 cap, .slice (some ⟨w4.heap.size + 1, 0, none⟩) 2 2] ((w4.alloc (.cells C5 5)).alloc (.cells #[.string (S [97]), .string (S [97])] 9)) fun e w' => e = .returned (.bool true) ∧ Below _ _ w' :=
    sameTexts_eq [[97], [97]] [[97], [97]] (by decide) rfl ao (some ⟨w4.heap.size + 1, 0, none⟩) cap 2 _ rt6 ru6
  refine c8.mono ?_
  rintro e w6 ⟨rfl, hb6⟩
  have HB6 := Lib.hid (below_step HW6.out hb6)
  clear hb6 rt6 ru6 rt5 rt
  go_wp2_with fail
  with_reducible refine (C6.out _).mono ?_
  rintro e w7 ⟨rfl, hb7⟩
  have HB7 := Lib.hid (below_step HB6.out hb7)
  clear hb7
  go_wp2_with fail
  with_reducible refine (C7.out _).mono ?_
  rintro e w8 ⟨rfl, hb8⟩
  have HB8 := Lib.hid (below_step HB7.out hb8)
  clear hb8
  go_wp2_with fail
  go_ret
  exact ⟨rfl, HB8.out⟩

end Go.Proofs.Ytehcedepiepbiaa
