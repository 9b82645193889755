/- Layer 4: the laws' walks: FramesNearest. -/
import Derived.Test.YtehcedepiepbiaaFramesL7
import Derived.Test.YtehcedepiepbiaaFramesL4
import Derived.Test.YtehcedepiepbiaaFramesL6
namespace Go.Proofs.Ytehcedepiepbiaa
set_option linter.unusedVariables false
open Go Go.RowKit Go.Sort
attribute [local go_sem ↓] run_index_S
attribute [local go_sem] S_append S_extract

theorem txtOf_cons (p : List UInt8) (qs : List (List UInt8)) : txtOf (p :: qs) = M.frameP p ++ txtOf qs := by simp [txtOf]
theorem offs_cons (p : List UInt8) (qs : List (List UInt8)) (j : Nat) : offs (p :: qs) (j + 1) = (M.frameP p).length + offs qs j := by
  unfold offs
  rw [List.take_succ_cons, txtOf_cons, List.length_append]
theorem offs_zero (ps : List (List UInt8)) : offs ps 0 = 0 := by simp [offs, txtOf]
theorem frame_two (p : List UInt8) : ∃ tl, M.frameP p = 2 :: tl := ⟨_, rfl⟩
theorem count_ge : ∀ (ps : List (List UInt8)), ps.length ≤ (txtOf ps).count 2
  | [] => by simp
  | p :: qs => by
    obtain ⟨tl, ht⟩ := frame_two p
    have := count_ge qs
    rw [txtOf_cons, ht, List.cons_append, List.count_cons_self, List.count_append, List.length_cons]
    omega
theorem two_places : ∀ (ps : List (List UInt8)), (txtOf ps).count 2 = ps.length → ∀ m, (txtOf ps)[m]? = some 2 → ∃ j, j < ps.length ∧ m = offs ps j
  | [], _, m, h => by simp [txtOf] at h
  | p :: qs, hc, m, h => by
    obtain ⟨tl, ht⟩ := frame_two p
    have hg := count_ge qs
    rw [txtOf_cons, ht, List.cons_append, List.count_cons_self, List.count_append, List.length_cons] at hc
    have h0 : tl.count 2 = 0 := by omega
    have hq : (txtOf qs).count 2 = qs.length := by omega
    rw [txtOf_cons] at h
    by_cases hm : m < (M.frameP p).length
    · rw [List.getElem?_append_left hm, ht] at h
      cases m with
      | zero => exact ⟨0, by simp, (offs_zero _).symm⟩
      | succ m =>
        rw [List.getElem?_cons_succ] at h
        exact absurd (List.mem_of_getElem? h) (List.count_eq_zero.1 h0)
    · rw [List.getElem?_append_right (by omega)] at h
      obtain ⟨j, hj, e⟩ := two_places qs hq _ h
      exact ⟨j + 1, by simp; omega, by rw [offs_cons]; omega⟩

/-- What the loop has found so far. -/
def Found (ps : List (List UInt8)) (A t m want : Nat) : Prop :=
  (want = A + (txtOf ps).length ∨ ∃ j, m ≤ j ∧ j < ps.length ∧ want = A + offs ps j ∧ t ≤ A + offs ps j) ∧ ∀ j, m ≤ j → j < ps.length → t ≤ A + offs ps j → want ≤ A + offs ps j
theorem found_start (ps : List (List UInt8)) (A t : Nat) : Found ps A t ps.length (A + (txtOf ps).length) := ⟨.inl rfl, fun j h1 h2 => by omega⟩
theorem found_take {ps : List (List UInt8)} {A t m want : Nat} (h : Found ps A t (m + 1) want) (hm : m < ps.length) (ht : t ≤ A + offs ps m) : Found ps A t m (A + offs ps m) :=
  ⟨.inr ⟨m, Nat.le_refl _, hm, rfl, ht⟩, fun j h1 h2 _ => by have := offs_le ps h1 (by omega); omega⟩
theorem found_pass {ps : List (List UInt8)} {A t m want : Nat} (h : Found ps A t (m + 1) want) (hm : m < ps.length) (ht : ¬ t ≤ A + offs ps m) : Found ps A t m want := by
  refine ⟨?_, fun j h1 h2 h3 => ?_⟩
  · rcases h.1 with h | ⟨j, h1, h2, h3, h4⟩
    · exact .inl h
    · exact .inr ⟨j, by omega, h2, h3, h4⟩
  · by_cases e : j = m
    · subst e; exact absurd h3 ht
    · exact h.2 j (by omega) h2 h3
theorem found_rs {ps : List (List UInt8)} (ah : List UInt8) (hok : okRow ps) (ha : ah.count 2 = 0) (hc : (txtOf ps).count 2 = ps.length) {t want : Nat} (ht : t ≤ ah.length + (txtOf ps).length) (h : Found ps ah.length t 0 want) :
    M.rs (ah ++ txtOf ps) t = want := by
  have hl : (ah ++ txtOf ps).length = ah.length + (txtOf ps).length := List.length_append
  obtain ⟨r1, r2, r3, r4⟩ := rs_spec (ah ++ txtOf ps) _ t (Nat.le_refl _) (by omega)
  have only : ∀ x, M.Stands (ah ++ txtOf ps) x → ∃ j, j < ps.length ∧ x = ah.length + offs ps j := fun x hs => by
    have h2 := hs.two
    have hx := hs.room
    by_cases hxa : x < ah.length
    · rw [getD_left _ _ _ hxa, List.getD, List.getElem?_eq_getElem hxa] at h2
      exact absurd (h2 ▸ List.getElem_mem hxa) (List.count_eq_zero.1 ha)
    · rw [getD_right _ _ _ (by omega), List.getD, List.getElem?_eq_getElem (by omega)] at h2
      obtain ⟨j, hj, e⟩ := two_places ps hc (x - ah.length) (by rw [List.getElem?_eq_getElem (by omega)]; exact congrArg some h2)
      exact ⟨j, hj, by omega⟩
  have st : ∀ j, j < ps.length → M.Stands (ah ++ txtOf ps) (ah.length + offs ps j) := fun j hj => by
    obtain ⟨h1, h2⟩ := row_piece ps j hj
    refine (M.stands_of (p := ps.getD j []) (by have := hok.2 j hj; omega) (by omega) ?_).1
    rw [piece_right _ _ _ _ (by omega), show ah.length + offs ps j - ah.length = offs ps j from by omega, show ah.length + offs ps j + (ps.getD j []).length + 8 - ah.length = offs ps j + (ps.getD j []).length + 8 from by omega, h2]
  generalize M.rs (ah ++ txtOf ps) t = r at *
  have hlt : ∀ j, j < ps.length → offs ps j < (txtOf ps).length := fun j hj => by have := (row_piece ps j hj).1; omega
  by_cases hr : r < ah.length + (txtOf ps).length
  · obtain ⟨j, hj, e⟩ := only r (r4 (by omega))
    have h2 := h.2 j (by omega) hj (by omega)
    rcases h.1 with h1 | ⟨i, hi1, hi2, hi3, hi4⟩
    · omega
    · have := hlt i hi2
      by_cases e2 : want = r
      · exact e2.symm
      · exact absurd (hi3 ▸ st i hi2) (r3 want (by omega) (by omega))
  · rcases h.1 with h1 | ⟨i, hi1, hi2, hi3, hi4⟩
    · omega
    · have := hlt i hi2
      exact absurd (st i hi2) (r3 _ (by omega) (by omega))

set_option maxHeartbeats 2000000 in
set_option maxRecDepth 100000 in
theorem framesNearest_mid (ps : List (List UInt8)) (hok : okRow ps) (hn : 0 < ps.length) (a : Addr) (cap : Nat) (ah : List UInt8) (hah : ah.length ≤ 100) (h0 : ah.count 2 = 0) (hc : (txtOf ps).count 2 = ps.length) (Y : Int) (hY : 0 ≤ Y ∧ Y < 65536) (w : World) (hat : TxtAt w a ps) :
    Calls Try.prog 9 #[.slice (some a) ps.length cap, .string (S ah), .int .u16 Y] w fun e w' => e = .returned (.bool true) ∧ Below w.heap.size w w' := by
  have hn20 := hok.1
  have htl := txtOf_take_length ps hok.2 ps.length (Nat.le_refl _)
  rw [List.take_length] at htl
  have htl2 : (txtOf ps).length ≤ 6160 := by omega
  have d0 : decide (100 < (ah.length : Int)) = false := by simp; omega
  have c1 := fun W => twos_any ah (by omega) W
  rw [h0] at c1
  have c2 := fun W => twos_any (txtOf ps) (by omega) W
  rw [hc] at c2
  obtain ⟨t, ht⟩ : ∃ t : Nat, Y % ((ah.length : Int) + ((txtOf ps).length : Int) + 1) = (t : Int) := ⟨_, (Int.toNat_of_nonneg (Int.emod_nonneg Y (show ((ah.length : Int) + ((txtOf ps).length : Int) + 1) ≠ 0 by omega))).symm⟩
  have htn : t ≤ ah.length + (txtOf ps).length := by have := Int.emod_lt_of_pos Y (show 0 < ((ah.length : Int) + ((txtOf ps).length : Int) + 1) by omega); rw [ht] at this; omega
  have c3 := fun W => resync_nat (ah ++ txtOf ps) (by rw [List.length_append]; omega) (t : Int) t (.inl rfl) W
  have hfr := fun want h => found_rs (ps := ps) ah hok h0 hc (t := t) (want := want) htn h
  have HAT := Lib.hid hat
  have HT := Lib.hid ht
  have HFR := Lib.hid hfr
  have C1 := Lib.hid c1
  have C2 := Lib.hid c2
  have C3 := Lib.hid c3
  have HC := Lib.hid hc
  clear hat ht hfr c1 c2 c3 h0 hc
  go_enter Try.func9, Try.ntmps9
  go_wp2_with fail
  with_reducible refine (row_some ps hn20 a cap _ HAT.out).mono ?_
  rintro e w1 ⟨⟨_, v1, rfl, hown1⟩ | ⟨hno, rfl⟩, hb1⟩
  rotate_left
  · exact absurd hok hno
  obtain ⟨g, cg, rfl, hg⟩ := intRow_of hn hown1
  have hoa : OffAt w1 g ps := fun j hj => hg j _ hj (by simp [offV, hj])
  have HOA := Lib.hid hoa
  clear hg hown1 hoa
  go_wp2_with fail
  with_reducible refine (C1.out _).mono ?_
  rintro e w2 ⟨rfl, hb2⟩
  have HB2 := Lib.hid (below_step hb1 hb2)
  have HO2 := Lib.hid (HOA.out.below hb2)
  clear hb1 hb2
  go_wp2_with fail
  with_reducible refine (C2.out _).mono ?_
  rintro e w3 ⟨rfl, hb3⟩
  have HB3 := Lib.hid (below_step HB2.out hb3)
  have HO3 := Lib.hid (HO2.out.below hb3)
  clear hb3
  go_wp2_with fail
  simp only [HT.out]
  go_loopw [11, 12] (fun u i wr => ∃ m want : Nat, m ≤ ps.length ∧ i = .int .i64 ((m : Int) - 1) ∧ u = .int .i64 want ∧ Found ps ah.length t m want ∧ wr = w3) (fun _ i _ => (intOf i + 1).toNat)
  case atStart => exact ⟨ps.length, ah.length + (txtOf ps).length, by omega, rfl, by go_num, found_start ps _ _, rfl⟩
  case round =>
    rename_i wr
    obtain ⟨m, want, hm, rfl, rfl, hf, rfl⟩ := hrel
    have HF := Lib.hid hf
    clear hf
    cases m with
    | zero =>
      have e1 := HFR.out want HF.out
      have c3 := fun W => C3.out W
      rw [e1] at c3
      have C3' := Lib.hid c3
      clear c3 e1
      go_wp2_with fail
      with_reducible refine (C3'.out _).mono ?_
      rintro e w4 ⟨rfl, hb4⟩
      have HB4 := Lib.hid (below_step HB3.out hb4)
      clear hb4
      go_wp2_with fail
      with_reducible refine (known_any _).mono ?_
      rintro e w5 ⟨rfl, hb5⟩
      go_wp2_with fail
      go_ret
      exact ⟨rfl, below_step HB4.out hb5⟩
    | succ m =>
      rw [show ((m + 1 : Nat) : Int) - 1 = (m : Int) by omega]
      have xo := HO3.out m (by omega)
      have hol := offs_end ps m (by omega)
      by_cases ht : t ≤ ah.length + offs ps m
      · have d1 : decide ((t : Int) ≤ (ah.length : Int) + (offs ps m : Int)) = true := by simp; omega
        have HF2 := Lib.hid (found_take HF.out (by omega) ht)
        generalize offs ps m = o at *
        go_wp2_with fail
        go_roundw
        case rel => exact ⟨m, _, by omega, rfl, by go_num, HF2.out, trivial⟩
        case measure => simp [intOf]
      · have d1 : decide ((t : Int) ≤ (ah.length : Int) + (offs ps m : Int)) = false := by simp; omega
        have HF2 := Lib.hid (found_pass HF.out (by omega) ht)
        generalize offs ps m = o at *
        go_wp2_with fail
        go_roundw
        case rel => exact ⟨m, _, by omega, rfl, rfl, HF2.out, trivial⟩
        case measure => simp [intOf]

set_option maxHeartbeats 1000000 in
set_option maxRecDepth 100000 in
theorem framesNearest_none (ah : List UInt8) (hah : ah.length ≤ 100) (h0 : ah.count 2 = 0) (ao : Option Addr) (cap : Nat) (Y : Int) (hY : 0 ≤ Y ∧ Y < 65536) (w : World) :
    Calls Try.prog 9 #[.slice ao 0 cap, .string (S ah), .int .u16 Y] w fun e w' => e = .returned (.bool true) ∧ Below w.heap.size w w' := by
  have d0 : decide (100 < (ah.length : Int)) = false := by simp; omega
  have c1 := fun W => twos_any ah (by omega) W
  rw [h0] at c1
  have c2 := fun W => twos_any [] (by simp) W
  obtain ⟨t, ht⟩ : ∃ t : Nat, Y % ((ah.length : Int) + 1) = (t : Int) := ⟨_, (Int.toNat_of_nonneg (Int.emod_nonneg Y (show ((ah.length : Int) + 1) ≠ 0 by omega))).symm⟩
  have c3 := fun W => resync_nat ah (by omega) (t : Int) t (.inl rfl) W
  rw [bare_rs (bare_stands (.inl h0)) t] at c3
  have HT := Lib.hid ht
  have C1 := Lib.hid c1
  have C2 := Lib.hid c2
  have C3 := Lib.hid c3
  clear ht c1 c2 c3 h0
  go_enter Try.func9, Try.ntmps9
  go_wp2_with fail
  refine (row_nil ao cap _).mono ?_
  rintro e w1 ⟨⟨_, v1, he, hown1⟩ | ⟨hno, rfl⟩, hb1⟩
  rotate_left
  · exact absurd ⟨by simp, fun j hj => by simp at hj⟩ hno
  rw [show txtOf ([] : List (List UInt8)) = [] from rfl] at he
  subst he
  obtain ⟨fo, fc, rfl⟩ : ∃ fo fc, v1 = .slice fo 0 fc := by
    rcases hown1.2 with ⟨h, _⟩ | ⟨g, c, _, h, _⟩
    · exact ⟨none, 0, h⟩
    · exact ⟨_, _, h⟩
  clear hown1
  have HB1 := Lib.hid hb1
  clear hb1
  go_wp2_with fail
  with_reducible refine (C1.out _).mono ?_
  rintro e w2 ⟨rfl, hb2⟩
  have HB2 := Lib.hid (below_step HB1.out hb2)
  clear hb2
  go_wp2_with fail
  with_reducible refine (C2.out _).mono ?_
  rintro e w3 ⟨rfl, hb3⟩
  have HB3 := Lib.hid (below_step HB2.out hb3)
  clear hb3
  go_wp2_with fail
  simp only [HT.out]
  refine wp_loop_rounds 1 ?_
  rw [rounds_succ]
  go_wp2_with fail
  with_reducible refine (C3.out _).mono ?_
  rintro e w4 ⟨rfl, hb4⟩
  have HB4 := Lib.hid (below_step HB3.out hb4)
  clear hb4
  go_wp2_with fail
  with_reducible refine (known_any _).mono ?_
  rintro e w5 ⟨rfl, hb5⟩
  go_wp2_with fail
  go_ret
  exact ⟨rfl, below_step HB4.out hb5⟩

set_option maxHeartbeats 1000000 in
set_option maxRecDepth 100000 in
theorem framesNearest_calls (w : World) (v : Value) (hv : ∃ ps, TxtArg w v ps) (ah : List UInt8) (hah : ah.length ≤ 140737488351232) (Y : Int) (wY : (Lit.int .u16 Y).wf = true) :
    Calls Try.prog 9 #[v, .string (S ah), .int .u16 Y] w fun e w' => e = .returned (.bool true) ∧ Below w.heap.size w w' := by
  obtain ⟨ps, hv⟩ := hv
  have hr := row_any ps v w hv
  obtain ⟨ao, cap, rfl, hm, hat⟩ := hv
  have hY := u16_range wY
  by_cases hok : okRow ps
  · have c1 := fun W => twos_any ah hah W
    have htl := txtOf_take_length ps hok.2 ps.length (Nat.le_refl _)
    rw [List.take_length] at htl
    have hn20 := hok.1
    have c2 := fun W => twos_any (txtOf ps) (by omega) W
    by_cases hA : 100 < ah.length
    · have d0 : decide (100 < (ah.length : Int)) = true := by simp; omega
      clear c1 c2
      go_enter Try.func9, Try.ntmps9
      go_wp2_with fail
      refine hr.mono ?_
      rintro e w1 ⟨⟨_, v1, rfl, hown1⟩ | ⟨hno, rfl⟩, hb1⟩
      rotate_left
      · exact absurd hok hno
      have HB1 := Lib.hid hb1
      clear hb1 hown1
      go_wp2_with fail
      with_reducible refine (known_any _).mono ?_
      rintro e w2 ⟨rfl, hb2⟩
      go_wp2_with fail
      go_ret
      exact ⟨rfl, below_step HB1.out hb2⟩
    have d0 : decide (100 < (ah.length : Int)) = false := by simp; omega
    by_cases h0 : ah.count 2 = 0
    · by_cases hc : (txtOf ps).count 2 = ps.length
      · rcases hat with rfl | ⟨a, rfl, hat⟩
        · exact framesNearest_none ah (by omega) h0 ao cap Y hY w
        · by_cases hn : ps.length = 0
          · have := framesNearest_none ah (by omega) h0 (some a) cap Y hY w
            rw [hn]
            exact this
          · exact framesNearest_mid ps hok (by omega) a cap ah (by omega) h0 hc Y hY w hat
      · have hle := Nat.le_trans (List.count_le_length (a := 2) (l := txtOf ps)) htl
        generalize (txtOf ps).count 2 = c at *
        have d1 : ((c : Int) != (ps.length : Int)) = true := by rw [bne, show ((c : Int) == (ps.length : Int)) = false by rw [beq_eq_false_iff_ne]; omega]; rfl
        rw [h0] at c1
        have C1 := Lib.hid c1
        have C2 := Lib.hid c2
        clear c1 c2 hc
        go_enter Try.func9, Try.ntmps9
        go_wp2_with fail
        refine hr.mono ?_
        rintro e w1 ⟨⟨_, v1, rfl, hown1⟩ | ⟨hno, rfl⟩, hb1⟩
        rotate_left
        · exact absurd hok hno
        have HB1 := Lib.hid hb1
        clear hb1 hown1
        go_wp2_with fail
        with_reducible refine (C1.out _).mono ?_
        rintro e w2 ⟨rfl, hb2⟩
        have HB2 := Lib.hid (below_step HB1.out hb2)
        clear hb2
        go_wp2_with fail
        with_reducible refine (C2.out _).mono ?_
        rintro e w3 ⟨rfl, hb3⟩
        have HB3 := Lib.hid (below_step HB2.out hb3)
        clear hb3
        go_wp2_with fail
        with_reducible refine (known_any _).mono ?_
        rintro e w4 ⟨rfl, hb4⟩
        go_wp2_with fail
        go_ret
        exact ⟨rfl, below_step HB3.out hb4⟩
    · have hle := List.count_le_length (a := 2) (l := ah)
      generalize ah.count 2 = c at *
      have d1 : decide (0 < (c : Int)) = true := by simp; omega
      have d1' : decide (0 < c) = true := by simp; omega
      have hc1 : 1 ≤ c := by omega
      have C1 := Lib.hid c1
      clear c1 c2 h0
      go_enter Try.func9, Try.ntmps9
      go_wp2_with fail
      refine hr.mono ?_
      rintro e w1 ⟨⟨_, v1, rfl, hown1⟩ | ⟨hno, rfl⟩, hb1⟩
      rotate_left
      · exact absurd hok hno
      have HB1 := Lib.hid hb1
      clear hb1 hown1
      go_wp2_with fail
      with_reducible refine (C1.out _).mono ?_
      rintro e w2 ⟨rfl, hb2⟩
      have HB2 := Lib.hid (below_step HB1.out hb2)
      clear hb2
      go_wp2_with fail
      with_reducible refine (known_any _).mono ?_
      rintro e w4 ⟨rfl, hb4⟩
      go_wp2_with fail
      go_ret
      exact ⟨rfl, below_step HB2.out hb4⟩
  · go_enter Try.func9, Try.ntmps9
    go_wp2_with fail
    refine hr.mono ?_
    rintro e w1 ⟨⟨hno, _⟩ | ⟨_, rfl⟩, hb1⟩
    · exact absurd hno hok
    have HB1 := Lib.hid hb1
    clear hb1
    go_wp2_with fail
    with_reducible refine (known_any _).mono ?_
    rintro e w2 ⟨rfl, hb2⟩
    go_wp2_with fail
    go_ret
    exact ⟨rfl, below_step HB1.out hb2⟩

end Go.Proofs.Ytehcedepiepbiaa
