/- Layer 4: the laws' walks: FramesDamage. -/
import Derived.Test.YtehcedepiepbiaaFramesD2
import Derived.Test.YtehcedepiepbiaaFramesL2
import Derived.Test.YtehcedepiepbiaaFramesL5
namespace Go.Proofs.Ytehcedepiepbiaa
set_option linter.unusedVariables false
open Go Go.RowKit Go.Sort
attribute [local go_sem ↓] run_index_S
attribute [local go_sem] S_append S_extract

/-- A row of numbers, to be read. -/
theorem intRow_of {w : World} {B : Nat} {e : TypeId} {v : Value} {n : Nat} {xs : List Value} (hn : 0 < n) (h : w.ownsRow B e 1 v n xs) : ∃ g cap, v = .slice (some ⟨g, 0, none⟩) n cap ∧ ∀ j val, j < n → xs[j]? = some val → w.cell? ⟨g, j, none⟩ = some val := by
  have h' := World.ownsRowF_of h
  rcases h'.2 with ⟨rfl, h0⟩ | ⟨g, cap, cur, fz, rfl, _, hgg, _⟩
  · omega
  · refine ⟨g, cap, rfl, fun j val hj hx => ?_⟩
    have hc := h'.cells (g := g) (by simp [Value.ownBlock]) j val hx
    rwa [Addr.add_lit, Nat.zero_add] at hc
def OffAt (w : World) (g : Nat) (ps : List (List UInt8)) : Prop := ∀ j, j < ps.length → w.cell? ⟨g, j, none⟩ = some (.int .i64 (offs ps j : Nat))
theorem OffAt.below {w w' : World} {g : Nat} {ps : List (List UInt8)} (h : OffAt w g ps) (hb : Below w.heap.size w w') : OffAt w' g ps := fun j hj =>
  (hb.cell (p := ⟨g, j, none⟩) (block_lt_of_cell (h j hj))).trans (h j hj)

set_option maxHeartbeats 2000000 in
set_option maxRecDepth 100000 in
theorem framesDamage_mid (ps : List (List UInt8)) (hok : okRow ps) (hn : 0 < ps.length) (a : Addr) (cap : Nat) (Y : Int) (hY : 0 ≤ Y ∧ Y < 65536) (y : Int) (hy : 1 ≤ y ∧ y ≤ 255) (w : World) (hat : TxtAt w a ps) :
    Calls Try.prog 8 #[.slice (some a) ps.length cap, .int .u16 Y, .int .u8 y] w fun e w' => e = .returned (.bool true) ∧ Below w.heap.size w w' := by
  have hn20 := hok.1
  obtain ⟨k, hk⟩ : ∃ k : Nat, Y % (ps.length : Int) = (k : Int) := ⟨_, (Int.toNat_of_nonneg (Int.emod_nonneg Y (show (ps.length : Int) ≠ 0 by omega))).symm⟩
  have hkn : k < ps.length := by have := Int.emod_lt_of_pos Y (show 0 < (ps.length : Int) by omega); rw [hk] at this; omega
  obtain ⟨q, hq⟩ : ∃ q : Nat, Y / (ps.length : Int) = (q : Int) := ⟨_, (Int.toNat_of_nonneg (Int.ediv_nonneg hY.1 (show 0 ≤ (ps.length : Int) by omega))).symm⟩
  have hp3 := hok.2 k hkn
  obtain ⟨off, hoff⟩ : ∃ off : Nat, (q : Int) % (((ps.getD k []).length : Int) + 4) = (off : Int) := ⟨_, (Int.toNat_of_nonneg (Int.emod_nonneg (q : Int) (show (((ps.getD k []).length : Int) + 4) ≠ 0 by omega))).symm⟩
  have ho4 : off < (ps.getD k []).length + 4 := by have := Int.emod_lt_of_pos (q : Int) (show 0 < (((ps.getD k []).length : Int) + 4) by omega); rw [hoff] at this; omega
  have d0 : decide (0 < y) = true := by simp; omega
  have d1 : (y == 0) = false := by simp; omega
  have d2 : (((ps.length : Nat) : Int) == 0) = false := by rw [beq_eq_false_iff_ne]; omega
  have HAT := Lib.hid hat
  have HK := Lib.hid hk
  have HQ := Lib.hid hq
  have HOFF := Lib.hid hoff
  clear hat hk hq hoff
  go_enter Try.func8, Try.ntmps8
  go_wp2_with fail
  with_reducible refine (row_some ps hn20 a cap _ HAT.out).mono ?_
  rintro e w1 ⟨⟨_, v1, rfl, hown1⟩ | ⟨hno, rfl⟩, hb1⟩
  rotate_left
  · exact absurd hok hno
  obtain ⟨g, cg, rfl, hg⟩ := intRow_of hn hown1
  have hoa : OffAt w1 g ps := fun j hj => hg j _ hj (by simp [offV, hj])
  have HA1 := Lib.hid (HAT.out.below hb1)
  clear hg hown1
  go_wp2_with fail
  simp only [HK.out]
  have xk := hoa k hkn
  have pk := HA1.out k hkn
  have hst := offs_step ps k hkn
  have hen := offs_end ps (k + 1) (by omega)
  have htl := txtOf_take_length ps hok.2 ps.length (Nat.le_refl _)
  rw [List.take_length] at htl
  have hOA := Lib.hid hoa
  clear hoa
  obtain ⟨p, hp⟩ : ∃ p, p = ps.getD k [] := ⟨_, rfl⟩
  rw [← hp] at pk hst ho4 hp3
  have hq1 : Int.tdiv Y (ps.length : Int) = (q : Int) := by rw [Int.tdiv_eq_ediv_of_nonneg hY.1]; exact HQ.out
  have hq2 : Y / (ps.length : Int) = (q : Int) := HQ.out
  have hm2 : (q : Int) % ((p.length : Int) + 4) = (off : Int) := by rw [hp]; exact HOFF.out
  have hm1 : Int.tmod (q : Int) ((p.length : Int) + 4) = (off : Int) := by rw [Int.tmod_eq_emod_of_nonneg (by omega)]; exact hm2
  have hP := Lib.hid hp
  clear hp
  have e1 : IntKind.i64.wrap ((offs ps k : Int) + 3) = (offs ps k : Int) + 3 := IntWalk.i64_in _ (by omega)
  have e2 : IntKind.i64.wrap ((p.length : Int) + 4) = (p.length : Int) + 4 := IntWalk.i64_in _ (by omega)
  have e3 : IntKind.i64.wrap ((offs ps k : Int) + 3 + off) = (offs ps k : Int) + 3 + off := IntWalk.i64_in _ (by omega)
  have e4 : IntKind.i64.wrap (q : Int) = (q : Int) := IntWalk.i64_in _ (by have := Int.ediv_le_self (ps.length : Int) hY.1; omega)
  go_quiet (fail)
  have HB2 := Lib.hid (below_drewN hb1 nq)
  have HA2 := Lib.hid (HA1.out.below (below_drewN (Below.refl _ w1) nq))
  have hOA2 := Lib.hid (hOA.out.below (below_drewN (Below.refl _ w1) nq))
  clear hb1 xk pk hOA HA1 hq1 hq2 hm1 hm2 e1 e2 e3 e4 HQ HOFF
  generalize w1.drewN nq = w2 at *
  obtain ⟨i, hi⟩ : ∃ i : Nat, i = offs ps k + 3 + off := ⟨_, rfl⟩
  have hiI : (offs ps k : Int) + 3 + (off : Int) = (i : Int) := by omega
  simp only [hiI]
  have hil : i < (txtOf ps).length := by omega
  have d3 : decide ((txtOf ps).length ≤ i) = false := by simp; omega
  obtain ⟨v, hxor, hv⟩ := xor_byte (B (txtOf ps) i) y (B_range _ _) (by omega)
  have hvx : ¬ v = (txtOf ps).getD i 0 := fun e => by
    have : (v.toNat : Int) = B (txtOf ps) i := by rw [e]; rfl
    have := hv.1 this
    omega
  obtain ⟨wa, ca, ra, ha, hba, hsa⟩ := bytes_conv (P := Try.prog) w2 9 35 5 Try.underlying9 Try.underlying35 Try.underlying5 (txtOf ps)
  have x9c := ha.cell i hil
  have x9f := ha.free i hil
  have hset := ha.set i hil v
  obtain ⟨A, hA⟩ : ∃ A, A = w2.heap.size := ⟨_, rfl⟩
  rw [← hA] at ra x9c x9f hset
  have hb3 : Below w2.heap.size w2 (wa.setCell ⟨A, i, none⟩ (.int .u8 (v.toNat : Int))) := hba.setCell (p := ⟨A, i, none⟩) (by show _ ≤ A; omega) _
  have HB3 := Lib.hid (below_step HB2.out hb3)
  have HA3 := Lib.hid (HA2.out.below hb3)
  have HO3 := Lib.hid (hOA2.out.below hb3)
  have HS3 := Lib.hid hset
  have hA3 : A < (wa.setCell ⟨A, i, none⟩ (.int .u8 (v.toNat : Int))).heap.size := by simp; omega
  have hown := damage_own ps hok.2 k off hkn (by rw [← hP.out]; exact ho4) v (by rw [← hi]; exact hvx)
  have hoth := fun j hj hjk => damage_other ps hok.2 k off hkn (by rw [← hP.out]; exact ho4) v j hj hjk
  rw [← hi] at hown hoth
  have htl2 : ((txtOf ps).set i v).length ≤ 7000 := by rw [List.length_set]; omega
  have HOWN := Lib.hid hown
  have HOTH := Lib.hid hoth
  have HLS := Lib.hid (show ((txtOf ps).set i v).length = (txtOf ps).length by simp)
  generalize (txtOf ps).set i v = bt at *
  clear ha hset hba hsa hA hi hown hoth hv hvx hb3 HA2 hOA2 HB2 hiI
  go_wp2_with fail
  have HP3 := Lib.hid hok.2
  clear ra x9c x9f hxor
  generalize wa.setCell ⟨A, i, none⟩ (.int .u8 (v.toNat : Int)) = w3 at *
  go_loopw [13] (fun u wr => ∃ j : Nat, j ≤ ps.length ∧ u = .int .i64 j ∧ Below w3.heap.size w3 wr) (fun u _ => ps.length - (intOf u).toNat)
  case atStart => exact ⟨0, by omega, rfl, Below.refl _ _⟩
  case round =>
    rename_i wr
    obtain ⟨j, hj, rfl, hb⟩ := hrel
    by_cases hjn : j < ps.length
    · have d4 : decide ((j : Int) < (ps.length : Int)) = true := by simp; omega
      have hsr := HS3.out.below hb hA3
      have hcv : ∀ d os, (convert 35 9 (.slice (some ⟨A, 0, none⟩) (txtOf ps).length ca)).run Try.prog (grow (redrawn wr d) os) = .ok (.string (S bt)) (grow (redrawn wr d) os) := fun d os => by
        have := (hsr.below (below_regrown wr d os) (Nat.lt_of_lt_of_le hA3 hb.size)).back (P := Try.prog) 35 9 Try.underlying35 Try.underlying5 Try.underlying9 ca
        rwa [HLS.out] at this
      have hoc := fun d os => cell_regrown ((HO3.out.below hb) j hjn) d os
      have htc := fun d os => cell_regrown ((HA3.out.below hb) j hjn) d os
      have HBr := Lib.hid hb
      clear hb hsr
      by_cases hjk : j = k
      · subst hjk
        have c1 := fun W => next_any bt (by omega) (offs ps j : Int) W
        rw [M.nextI_nat, HOWN.out] at c1
        simp only [triF] at c1
        have C1 := Lib.hid c1
        clear c1
        go_wp2_with fail
        refine wp_region_quiet_below (by kernel_rfl) (by kernel_rfl) ?_
        repeat (any_goals (first | go_big_quiet_step ((go_at_call 15; with_reducible exact Calls.regrown_of (C1.out _))) | quiet_step ((go_at_call 15; with_reducible exact Calls.regrown_of (C1.out _)))))
        refine wpQuiet_nil ?_
        intro _ hw1
        obtain ⟨⟨dd, oo⟩, hw1⟩ := hw1
        subst hw1
        have HB5 := Lib.hid (HBr.out.trans ((below_regrown wr dd oo).mono HBr.out.size))
        clear hcv hoc htc
        go_wp2_with fail
        go_roundw
        case rel => exact ⟨j + 1, by omega, by go_num, HB5.out⟩
        case measure => simp [intOf]; omega
      · have c1 := fun W => next_any bt (by omega) (offs ps j : Int) W
        rw [M.nextI_nat, HOTH.out j hjn hjk] at c1
        simp only [triF] at c1
        generalize ps.getD j [] = u at c1 htc
        have C1 := Lib.hid c1
        clear c1
        have hjk2 : (j == k) = false := by simpa using hjk
        have hjk3 : ((j : Int) == (k : Int)) = false := by rw [beq_eq_false_iff_ne]; omega
        go_wp2_with fail
        refine wp_region_quiet_below (by kernel_rfl) (by kernel_rfl) ?_
        repeat (any_goals (first | go_big_quiet_step ((go_at_call 15; with_reducible exact Calls.regrown_of (C1.out _))) | quiet_step ((go_at_call 15; with_reducible exact Calls.regrown_of (C1.out _)))))
        refine wpQuiet_nil ?_
        intro _ hw1
        obtain ⟨⟨dd, oo⟩, hw1⟩ := hw1
        subst hw1
        have HB5 := Lib.hid (HBr.out.trans ((below_regrown wr dd oo).mono HBr.out.size))
        have tc := htc dd oo
        have hjk4 : ((j : Int) != (k : Int)) = true := by rw [bne, hjk3]; rfl
        clear hcv hoc htc
        go_wp2_with fail
        go_roundw
        case rel => exact ⟨j + 1, by omega, by go_num, HB5.out⟩
        case measure => simp [intOf]; omega
    · obtain rfl : j = ps.length := by omega
      have d4 : decide ((ps.length : Int) < (ps.length : Int)) = false := by simp
      have HBr := Lib.hid hb
      clear hb
      go_wp2_with fail
      with_reducible refine (known_any _).mono ?_
      rintro e w5 ⟨rfl, hb5⟩
      go_wp2_with fail
      go_ret
      exact ⟨rfl, below_step (HB3.out.trans (HBr.out.mono HB3.out.size)) hb5⟩

set_option maxHeartbeats 1000000 in
set_option maxRecDepth 100000 in
theorem framesDamage_calls (w : World) (v : Value) (hv : ∃ ps, TxtArg w v ps) (Y : Int) (wY : (Lit.int .u16 Y).wf = true) (y : Int) (wy : (Lit.int .u8 y).wf = true) :
    Calls Try.prog 8 #[v, .int .u16 Y, .int .u8 y] w fun e w' => e = .returned (.bool true) ∧ Below w.heap.size w w' := by
  obtain ⟨ps, hv⟩ := hv
  have hr := row_any ps v w hv
  obtain ⟨ao, cap, rfl, hm, hat⟩ := hv
  by_cases hok : okRow ps
  · by_cases hn : ps.length = 0
    · rw [hn] at hr ⊢
      go_enter Try.func8, Try.ntmps8
      go_wp2_with fail
      refine hr.mono ?_
      rintro e w1 ⟨⟨_, v1, rfl, hown1⟩ | ⟨hno, rfl⟩, hb1⟩
      rotate_left
      · exact absurd hok hno
      have HB1 := Lib.hid hb1
      clear hb1 hown1
      go_wp2_with fail
      with_reducible refine (known_any _).mono ?_
      rintro e w2 ⟨rfl, hb2⟩
      go_wp2_with fail
      go_ret
      exact ⟨rfl, below_step HB1.out hb2⟩
    · obtain ⟨a, rfl, hat2⟩ : ∃ a, ao = some a ∧ TxtAt w a ps := by
        rcases hat with rfl | h
        · simp at hn
        · exact h
      have hY := u16_range wY
      have hy := u8_range wy
      by_cases hy0 : y = 0
      · subst hy0
        have hd2 : (((ps.length : Nat) : Int) == 0) = false := by rw [beq_eq_false_iff_ne]; omega
        go_enter Try.func8, Try.ntmps8
        go_wp2_with fail
        refine hr.mono ?_
        rintro e w1 ⟨⟨_, v1, rfl, hown1⟩ | ⟨hno, rfl⟩, hb1⟩
        rotate_left
        · exact absurd hok hno
        have HB1 := Lib.hid hb1
        clear hb1 hown1
        go_wp2_with fail
        with_reducible refine (known_any _).mono ?_
        rintro e w2 ⟨rfl, hb2⟩
        go_wp2_with fail
        go_ret
        exact ⟨rfl, below_step HB1.out hb2⟩
      · exact framesDamage_mid ps hok (by omega) a cap Y hY y ⟨by omega, by omega⟩ w hat2
  · go_enter Try.func8, Try.ntmps8
    go_wp2_with fail
    refine hr.mono ?_
    rintro e w1 ⟨⟨hno, _⟩ | ⟨_, rfl⟩, hb1⟩
    · exact absurd hno hok
    have HB1 := Lib.hid hb1
    clear hb1
    go_wp2_with fail
    with_reducible refine (known_any _).mono ?_
    rintro e w2 ⟨rfl, hb2⟩
    go_wp2_with fail
    go_ret
    exact ⟨rfl, below_step HB1.out hb2⟩

end Go.Proofs.Ytehcedepiepbiaa
