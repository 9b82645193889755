/- Layer 4: the laws' walks: FramesDeep. -/
import Derived.Test.YtehcedepiepbiaaFramesK
import Derived.Test.YtehcedepiepbiaaSumsL
namespace Go.Proofs.Ytehcedepiepbiaa
set_option linter.unusedVariables false
open Go Go.RowKit
attribute [local go_sem ↓] run_index_S
attribute [local go_sem] S_append S_extract

theorem u16_range {n : Int} (h : (Lit.int .u16 n).wf = true) : 0 ≤ n ∧ n < 65536 := by
  simp [Lit.wf, IntKind.min, IntKind.max, IntKind.signed, IntKind.bits] at h
  omega
theorem deep_in (p : List UInt8) (hp : p.length ≤ 3000) : M.Stands (M.frameP (M.frameP p)) 3 ∧ M.next (M.frameP (M.frameP p)) 3 = some (p, p.length + 11) := by
  have h := M.next_at ([2] ++ [UInt8.ofNat ((M.frameP p).length / 256), UInt8.ofNat ((M.frameP p).length % 256)]) p (M.big 4 (M.sumP (M.frameP p)) ++ [3]) (by omega)
  rw [← M.frame_split] at h
  refine ⟨h.1, ?_⟩
  have h2 := h.2
  simp only [List.length_append, List.length_cons, List.length_nil] at h2
  rw [show 0 + 1 + (0 + 1 + 1) = 3 from rfl] at h2
  rw [h2]
  congr 2
  omega
theorem deep_cut (f : List UInt8) (hf : f.length ≤ 16384) (c : Nat) (hc : c < f.length + 8) : M.next ((M.frameP f).take c) 0 = none := by
  refine M.next_no fun h => ?_
  have hr := h.room
  have hl : ((M.frameP f).take c).length = c := by rw [List.length_take, M.frameP_length]; omega
  have hm : M.many ((M.frameP f).take c) 0 = f.length := by
    rw [← M.frame_many f hf]
    unfold M.many
    simp only [List.getD, List.getElem?_take]
    rw [if_pos (by omega), if_pos (by omega)]
  have := h.fits
  rw [hm] at this
  omega
theorem deep_rs (g : List UInt8) (h : M.Stands g 3) : 1 ≤ M.rs g 1 ∧ M.rs g 1 ≤ 3 := by
  have hl := h.room
  by_cases h1 : M.Stands g 1
  · rw [M.rs_yes h1]; omega
  · rw [M.rs_no h1 (by omega)]
    by_cases h2 : M.Stands g 2
    · rw [M.rs_yes h2]; omega
    · rw [M.rs_no h2 (by omega), M.rs_yes h]; omega

set_option maxHeartbeats 1000000 in
set_option maxRecDepth 100000 in
theorem framesDeep_mid (p : List UInt8) (hp : p.length ≤ 3000) (y : Int) (hy : 0 ≤ y ∧ y < 65536) (w : World) :
    Calls Try.prog 11 #[.string (S p), .int .u16 y] w fun e w' => e = .returned (.bool true) ∧ Below w.heap.size w w' := by
  have d1 : decide (3000 < (p.length : Int)) = false := by simp; omega
  have hfl := M.frameP_length p
  have hgl := M.frameP_length (M.frameP p)
  have c1 := fun W => frame_ok p (by omega) W
  have c2 := fun W => frame_ok (M.frameP p) (by omega) W
  have c3 := fun W => next_any (M.frameP (M.frameP p)) (by omega) 0 W
  rw [show M.nextI (M.frameP (M.frameP p)) 0 = some (M.frameP p, (M.frameP p).length + 8) from M.next_frame _ (by omega)] at c3
  obtain ⟨hs3, hn3⟩ := deep_in p hp
  have c4 := fun W => next_any (M.frameP (M.frameP p)) (by omega) 3 W
  rw [show M.nextI (M.frameP (M.frameP p)) 3 = some (p, p.length + 11) from hn3] at c4
  simp only [triF] at c3 c4
  obtain ⟨c, hc⟩ : ∃ c : Nat, (c : Int) = y % ((M.frameP (M.frameP p)).length : Int) := ⟨(y % ((M.frameP (M.frameP p)).length : Int)).toNat, by have := Int.emod_nonneg y (show ((M.frameP (M.frameP p)).length : Int) ≠ 0 by omega); omega⟩
  have hcl : c < (M.frameP (M.frameP p)).length := by have := Int.emod_lt_of_pos y (show 0 < ((M.frameP (M.frameP p)).length : Int) by omega); omega
  have hcut := deep_cut (M.frameP p) (by omega) c (by omega)
  have c5 := fun W => whole_any ((M.frameP (M.frameP p)).take c) (by rw [List.length_take]; omega) W
  rw [M.wh_none hcut] at c5
  obtain ⟨hr1, hr3⟩ := deep_rs _ hs3
  have c6 := fun W => resync_nat (M.frameP (M.frameP p)) (by omega) 1 1 (.inl rfl) W
  generalize M.rs (M.frameP (M.frameP p)) 1 = r at *
  clear hcut hs3 hn3
  generalize M.frameP (M.frameP p) = g at *
  generalize M.frameP p = f at *
  have hg8 : 8 ≤ g.length := by omega
  have hg9 : g.length ≤ 4000 := by omega
  have q2 : (p.length : Int) + 11 = (g.length : Int) - 5 := by omega
  have q4 : (f.length : Int) + 8 = (g.length : Int) := by omega
  have q1 : ((f.length : Int) + 8 == (g.length : Int)) = true := by rw [q4]; simp
  have q3 : ((p.length : Int) + 11 == (g.length : Int) - 5) = true := by rw [q2]; simp
  have d2 : decide (1 ≤ (r : Int)) = true := by simp; omega
  have d3 : decide ((r : Int) ≤ 3) = true := by simp; omega
  have hmax : max (g.length : Int) 1 = g.length := by omega
  have hpt := fun W k => run_piece_to (P := Try.prog) 9 Try.underlying9 g (y % (g.length : Int)) c hc.symm (by omega) W k
  generalize g.take c = gc at *
  have C1 := Lib.hid c1
  have C2 := Lib.hid c2
  have C3 := Lib.hid c3
  have C4 := Lib.hid c4
  have C5 := Lib.hid c5
  have C6 := Lib.hid c6
  clear c1 c2 c3 c4 c5 c6 hfl hgl hc hcl q2 q4
  go_enter Try.func11, Try.ntmps11
  go_wp2_with fail
  with_reducible refine (C1.out _).mono ?_
  rintro e w1 ⟨rfl, hb1⟩
  go_wp2_with fail
  with_reducible refine (C2.out _).mono ?_
  rintro e w2 ⟨rfl, hb2⟩
  have HB2 := Lib.hid (below_step hb1 hb2)
  clear hb1 hb2
  go_wp2_with fail
  with_reducible refine (C3.out _).mono ?_
  rintro e w3 ⟨rfl, hb3⟩
  have HB3 := Lib.hid (below_step HB2.out hb3)
  clear hb3
  go_wp2_with fail
  with_reducible refine (C4.out _).mono ?_
  rintro e w4 ⟨rfl, hb4⟩
  have HB4 := Lib.hid (below_step HB3.out hb4)
  clear hb4
  go_wp2_with fail
  with_reducible refine (C5.out _).mono ?_
  rintro e w5 ⟨v, rfl, hown, hb5⟩
  have HB5 := Lib.hid (below_step HB4.out hb5)
  obtain ⟨ao, cap, rfl, _⟩ := txtRow_of (ps := []) hown
  clear hb5 hown hpt
  go_wp2_with fail
  with_reducible refine (C6.out _).mono ?_
  rintro e w6 ⟨rfl, hb6⟩
  have HB6 := Lib.hid (below_step HB5.out hb6)
  clear hb6
  go_wp2_with fail
  with_reducible refine (known_any _).mono ?_
  rintro e w7 ⟨rfl, hb7⟩
  go_wp2_with fail
  go_ret
  exact ⟨rfl, below_step HB6.out hb7⟩

set_option maxRecDepth 100000 in
theorem framesDeep_calls (p : List UInt8) (hp : p.length ≤ 140737488351232) (y : Int) (wy : (Lit.int .u16 y).wf = true) (w : World) :
    Calls Try.prog 11 #[.string (S p), .int .u16 y] w fun e w' => e = .returned (.bool true) ∧ Below w.heap.size w w' := by
  by_cases h1 : 3000 < p.length
  · have d1 : decide (3000 < (p.length : Int)) = true := by simp; omega
    go_enter Try.func11, Try.ntmps11
    go_wp2_with fail
    with_reducible refine (known_any _).mono ?_
    rintro e w1 ⟨rfl, hb1⟩
    go_wp2_with fail
    go_ret
    exact ⟨rfl, hb1⟩
  exact framesDeep_mid p (by omega) y (u16_range wy) w

end Go.Proofs.Ytehcedepiepbiaa
