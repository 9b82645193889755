/- Layer 7: the laws' walks: NetsCount. -/
import Derived.Test.YtggflkjdpibioaaNetsX
import Derived.Test.YtggflkjdpibioaaNetsY
namespace Go.Proofs.Ytggflkjdpibioaa
set_option linter.unusedVariables false
open Go Go.RowKit

theorem rows_at {w : World} {ao : Option Addr} {A : List Ac} {k : Nat} (hr : A ≠ [] → ∃ g off, ao = some ⟨g, off, none⟩ ∧ ∀ j, j < A.length →
    w.cell? ⟨g, off + j * 5, none⟩ = some (.int .u8 (A.getD j ac0).kind) ∧ w.cell? ⟨g, off + j * 5 + 1, none⟩ = some (.int .i64 (A.getD j ac0).m.src) ∧ w.cell? ⟨g, off + j * 5 + 2, none⟩ = some (.int .i64 (A.getD j ac0).m.dst) ∧
    w.cell? ⟨g, off + j * 5 + 3, none⟩ = some (.string (S (A.getD j ac0).m.dat)) ∧ w.cell? ⟨g, off + j * 5 + 4, none⟩ = some (.int .i64 (A.getD j ac0).i)) (hk : k < A.length) :
    ∃ g off, ao = some ⟨g, off, none⟩ ∧ g < w.heap.size ∧ ∀ W, Below w.heap.size w W → W.cell? ⟨g, off + k * 5, none⟩ = some (.int .u8 (A.getD k ac0).kind) ∧ W.cell? ⟨g, off + k * 5 + 1, none⟩ = some (.int .i64 (A.getD k ac0).m.src) ∧ W.cell? ⟨g, off + k * 5 + 2, none⟩ = some (.int .i64 (A.getD k ac0).m.dst) ∧
    W.cell? ⟨g, off + k * 5 + 3, none⟩ = some (.string (S (A.getD k ac0).m.dat)) ∧ W.cell? ⟨g, off + k * 5 + 4, none⟩ = some (.int .i64 (A.getD k ac0).i) := by
  obtain ⟨g, off, e, hc⟩ := hr (fun h => by rw [h] at hk; simp at hk)
  refine ⟨g, off, e, block_lt_of_cell (hc k hk).1, fun W hb => ?_⟩
  have k' := fun {a v} (h : w.cell? a = some v) => (hb.cell (p := a) (block_lt_of_cell h)).trans h
  obtain ⟨h0, h1, h2, h3, h4⟩ := hc k hk
  exact ⟨k' h0, k' h1, k' h2, k' h3, k' h4⟩

set_option maxHeartbeats 4000000 in
set_option maxRecDepth 100000 in
theorem netsCount_calls (u : Value) (v : Value) (hv : UMl v) (w : World) (hu : ∃ A, AcRow w u A) :
    Calls Try.prog 5 #[u, v] w fun e w' => e = .returned (.bool true) ∧ Below w.heap.size w w' := by
  obtain ⟨A, hA⟩ := hu
  obtain ⟨c, rfl⟩ := hv
  obtain ⟨ao, cap, rfl, hm, hok, hrow⟩ := id hA
  have hAb := fun o => (show AcRow (w.alloc o) (.slice ao A.length cap) A from by
    refine ⟨ao, cap, rfl, hm, hok, fun hne => ?_⟩
    obtain ⟨g, off, e, hc⟩ := hrow hne
    have k := fun {a v} (h : w.cell? a = some v) => (((Below.refl w.heap.size w).alloc (Nat.le_refl _) o).cell (p := a) (block_lt_of_cell h)).trans h
    exact ⟨g, off, e, fun j hj => ⟨k (hc j hj).1, k (hc j hj).2.1, k (hc j hj).2.2.1, k (hc j hj).2.2.2.1, k (hc j hj).2.2.2.2⟩⟩)
  have C0 := Lib.hid (fun o => great7_any (hAb o))
  unfold maxLen at hm
  have HR := Lib.hid hrow
  have HOK := Lib.hid hok
  clear hrow hok hA hAb
  go_enter Try.func5, Try.ntmps5
  go_wp2_with fail
  have hX : BlkIn #[.int .i64 c.src, .int .i64 c.dst, .string (S c.dat)] 31 (w.alloc (.cells #[.int .i64 c.src, .int .i64 c.dst, .string (S c.dat)] 31)) w.heap.size := heap_alloc_new w _
  have hb0 := (Below.refl w.heap.size w).alloc (Nat.le_refl _) (.cells #[.int .i64 c.src, .int .i64 c.dst, .string (S c.dat)] 31)
  with_reducible refine (C0.out _).mono ?_
  rintro e W1 ⟨rfl | ⟨rfl, hbd⟩, rfl⟩
  · go_wp2_with fail
    go_ret
    exact ⟨rfl, hb0⟩
  clear hbd C0
  generalize (w.alloc (.cells #[.int .i64 c.src, .int .i64 c.dst, .string (S c.dat)] 31)) = W1 at *
  have x0 : W1.cell? ⟨w.heap.size, 0, none⟩ = some (.int .i64 c.src) := hX.cell 0
  have x1 : W1.cell? ⟨w.heap.size, 1, none⟩ = some (.int .i64 c.dst) := hX.cell 1
  have x2 : W1.cell? ⟨w.heap.size, 2, none⟩ = some (.string (S c.dat)) := hX.cell 2
  by_cases hcl : 1000 < c.dat.length
  · have d1 : decide ((c.dat.length : Int) > 1000) = true := by simp; omega
    go_wp2_with fail
    go_ret
    exact ⟨rfl, hb0⟩
  have d1 : decide ((c.dat.length : Int) > 1000) = false := by simp; omega
  go_wp2_with fail
  clear x0 x1 x2
  with_reducible refine (netNew_any W1).mono ?_
  rintro e w0 ⟨rfl, hN0, hb1⟩
  have hxl := hX.lt
  have hne : W1.heap.size ≠ w.heap.size := by omega
  have hXb : w.heap.size ≤ W1.heap.size := by omega
  have HX := Lib.hid (hX.below hb1)
  have HB := Lib.hid (hb0.trans (hb1.mono (by omega)))
  have HN := Lib.hid hN0
  clear hX hb0 hb1 hN0 hxl
  generalize W1.heap.size = b at *
  go_wp2_with fail
  go_loopw [6, 7, 8] (fun many of_ i' wr => ∃ (k : Nat) (L : List Ml), k ≤ A.length ∧ many = .int .i64 L.length ∧ of_ = .int .i64 (cntM L c) ∧ i' = .int .i64 k ∧ NetIn wr b L ∧ BlkIn #[.int .i64 c.src, .int .i64 c.dst, .string (S c.dat)] 31 wr w.heap.size ∧ Below w.heap.size w wr) (fun _ _ i' _ => A.length - (intOf i').toNat)
  case atStart => exact ⟨0, [], by omega, rfl, rfl, rfl, HN.out, HX.out, HB.out⟩
  case round =>
    rename_i wr
    obtain ⟨k, L, hk, rfl, rfl, rfl, hN, hX, hB⟩ := hrel
    have HN1 := Lib.hid hN
    have HX1 := Lib.hid hX
    have HB1 := Lib.hid hB
    have h64 := hN.le
    have hcn : cntM L c ≤ L.length := List.length_filter_le _ _
    clear hN hX hB HN HX HB
    by_cases hlt : k < A.length
    · have d2 : decide ((k : Int) < (A.length : Int)) = true := by simp; omega
      obtain ⟨g, off, rfl, hgw, hx⟩ := rows_at HR.out hlt
      have hmem : A.getD k ac0 ∈ A := by simp only [List.getD, List.getElem?_eq_getElem hlt, Option.getD_some]; exact List.getElem_mem _
      have hxo := HOK.out _ hmem
      have HXO := Lib.hid hxo
      have HXX := Lib.hid hx
      have hq1 : 0 ≤ (A.getD k ac0).kind := hxo.k1
      have hq2 : (A.getD k ac0).kind ≤ 255 := hxo.k2
      have hact := act_adds L (A.getD k ac0) hxo c
      clear hx hmem hxo
      generalize A.getD k ac0 = x at *
      obtain ⟨xk, xm, xi⟩ := x
      simp only at HXX hq1 hq2
      obtain ⟨x0, x1, x2, x3, x4⟩ := HXX.out wr HB1.out
      have C1 := Lib.hid (netLook_any HN1.out xi)
      have HLB := Lib.hid (show ∀ q, xk % 9 = q → ¬ q < 4 → q ≠ 4 → dB L ⟨xk, xm, xi⟩ = true → lookB L xi = true from by
        intro q e h4 hn hd
        unfold dB at hd
        simp only [e] at hd
        by_cases h568 : q = 4 ∨ q = 5 ∨ q = 6 ∨ q = 8
        · rw [if_pos h568] at hd; exact hd
        · rw [if_neg h568] at hd
          have h7 : q = 7 := by have : 0 ≤ xk % 9 ∧ xk % 9 < 9 := ⟨by omega, by omega⟩; omega
          rw [if_pos h7] at hd
          have := of_decide_eq_true hd
          exact decide_eq_true this.1)
      obtain ⟨hlen, hcnt⟩ := hact
      unfold addA at hlen
      unfold addA wasA at hcnt
      simp only at hlen hcnt
      have C2 := Lib.hid (fun W (h : NetIn W b L) => done_any h ⟨xk, xm, xi⟩ HXO.out)
      generalize lookM L xi = m0 at *
      generalize lookB L xi = is_ at *
      generalize dL L ⟨xk, xm, xi⟩ = L' at *
      generalize dM L ⟨xk, xm, xi⟩ = dm at *
      generalize dB L ⟨xk, xm, xi⟩ = ok at *
      have hq : 0 ≤ xk % 9 ∧ xk % 9 < 9 := ⟨by omega, by omega⟩
      go_wp2_with fail
      with_reducible refine (C1.out).mono ?_
      rintro e w1 ⟨rfl, hb⟩
      have HN2 := Lib.hid (HN1.out.below hb)
      have HX2 := Lib.hid (HX1.out.below hb)
      have HB2 := Lib.hid (below_step HB1.out hb)
      clear hb C1 x0 x1 x2 x3 x4
      have xx := fun o => HXX.out (w1.alloc o) (HB2.out.alloc HB2.out.size o)
      have x0 := fun o => (xx o).1
      have x1 := fun o => (xx o).2.1
      have x2 := fun o => (xx o).2.2.1
      have x3 := fun o => (xx o).2.2.2.1
      have x4 := fun o => (xx o).2.2.2.2
      clear xx
      go_wp2_with fail
      have hY : BlkIn #[.int .i64 m0.src, .int .i64 m0.dst, .string (S m0.dat)] 31 (w1.alloc (.cells #[.int .i64 m0.src, .int .i64 m0.dst, .string (S m0.dat)] 31)) w1.heap.size := heap_alloc_new w1 _
      have HN3 := Lib.hid (HN2.out.more (.cells #[.int .i64 m0.src, .int .i64 m0.dst, .string (S m0.dat)] 31))
      have HX3 := Lib.hid (HX2.out.more (.cells #[.int .i64 m0.src, .int .i64 m0.dst, .string (S m0.dat)] 31))
      have HB3 := Lib.hid (HB2.out.alloc HB2.out.size (.cells #[.int .i64 m0.src, .int .i64 m0.dst, .string (S m0.dat)] 31))
      have hYb : w1.heap.size ≠ b := by have := HN2.out.lt; omega
      have hYX : w1.heap.size ≠ w.heap.size := by have := HX2.out.lt; omega
      have hYw : w.heap.size ≤ w1.heap.size := HB2.out.size
      have hgY1 : ¬ g = w1.heap.size := by omega
      have hgY2 : ¬ w1.heap.size = g := by omega
      have hYX2 : ¬ w.heap.size = w1.heap.size := Ne.symm hYX
      clear x0 x1 x2 x3 x4 HN2 HX2 HB2 HN1 HX1 HB1
      generalize (w1.alloc (.cells #[.int .i64 m0.src, .int .i64 m0.dst, .string (S m0.dat)] 31)) = V1 at *
      generalize w1.heap.size = Y at *
      have HY3 := Lib.hid hY
      clear hY
      with_reducible refine (C2.out _ HN3.out).mono ?_
      rintro e w2 ⟨rfl, hN, hO⟩
      have HN4 := Lib.hid hN
      have HX4 := Lib.hid (HX3.out.only hO (Ne.symm hne))
      have HY4 := Lib.hid (HY3.out.only hO hYb)
      have HB4 := Lib.hid (HB3.out.trans (hO.below hXb (by have := HX3.out.lt; omega)))
      clear hN hO C2 HN3 HX3 HY3 HB3
      have xx := fun o => HXX.out (w2.alloc o) (HB4.out.alloc HB4.out.size o)
      have x0 := fun o => (xx o).1
      have x1 := fun o => (xx o).2.1
      have x2 := fun o => (xx o).2.2.1
      have x3 := fun o => (xx o).2.2.2.1
      have x4 := fun o => (xx o).2.2.2.2
      have y0 : ∀ o, (w2.alloc o).cell? ⟨Y, 0, none⟩ = some (.int .i64 m0.src) := fun o => (HY4.out.more o).cell 0
      have y1 : ∀ o, (w2.alloc o).cell? ⟨Y, 1, none⟩ = some (.int .i64 m0.dst) := fun o => (HY4.out.more o).cell 1
      have y2 : ∀ o, (w2.alloc o).cell? ⟨Y, 2, none⟩ = some (.string (S m0.dat)) := fun o => (HY4.out.more o).cell 2
      have yf : ∀ o j, (w2.alloc o).frozen? ⟨Y, j, none⟩ = false := fun o j => (HY4.out.more o).free j
      have c0 : ∀ o, (w2.alloc o).cell? ⟨w.heap.size, 0, none⟩ = some (.int .i64 c.src) := fun o => (HX4.out.more o).cell 0
      have c1 : ∀ o, (w2.alloc o).cell? ⟨w.heap.size, 1, none⟩ = some (.int .i64 c.dst) := fun o => (HX4.out.more o).cell 1
      have c2 : ∀ o, (w2.alloc o).cell? ⟨w.heap.size, 2, none⟩ = some (.string (S c.dat)) := fun o => (HX4.out.more o).cell 2
      clear xx
      have hl64 : L'.length ≤ 64 := HN4.out.le
      have C3 := Lib.hid (fun W (h : NetIn W b L') => netLen_any h)
      have hc2 : cntM L' c ≤ L'.length := List.length_filter_le _ _
      cases ok with
      | false =>
        simp only [if_true, Bool.false_eq_true, false_and, if_false] at hlen hcnt
        by_cases hW : m0 = c
        · rw [if_pos hW] at hcnt
          subst hW
          have hL : L'.length = L.length := by omega
          have HL := Lib.hid hL
          have HC := Lib.hid (show cntM L' m0 = cntM L m0 from by omega)
          have d5 : decide ((L'.length : Int) < 0) = false := by simp
          have d6 : decide ((L'.length : Int) > 64) = false := by simp; omega
          have d7 : decide ((L.length : Int) < 0) = false := by simp
          have d8 : decide ((L.length : Int) > 64) = false := by simp; omega
          clear hlen hcnt
          go_wp2_with fail
          with_reducible refine (C3.out _ (HN4.out.more _)).mono ?_
          rintro e w3 ⟨rfl, rfl⟩
          clear x0 x1 x2 x3 x4 y0 y1 y2 yf c0 c1 c2
          go_wp2_with fail
          go_roundw
          case rel => exact ⟨k + 1, L', by omega, by first | rfl | rw [HL.out], by first | rfl | rw [HC.out], by go_num, HN4.out.more _, (HX4.out.more _), HB4.out.alloc HB4.out.size _⟩
          case measure => simp [intOf]; omega
        · rw [if_neg hW] at hcnt
          have hL : L'.length = L.length := by omega
          have HL := Lib.hid hL
          have HC := Lib.hid (show cntM L' c = cntM L c from by omega)
          have d5 : decide ((L'.length : Int) < 0) = false := by simp
          have d6 : decide ((L'.length : Int) > 64) = false := by simp; omega
          have d7 : decide ((L.length : Int) < 0) = false := by simp
          have d8 : decide ((L.length : Int) > 64) = false := by simp; omega
          clear hlen hcnt
          go_wp2_with fail
          all_goals first
            | exact absurd (Ml.ext' (by assumption) (by assumption) (by assumption)) hW
            | skip
          all_goals
            with_reducible refine (C3.out _ (HN4.out.more _)).mono ?_
            rintro e w3 ⟨rfl, rfl⟩
            clear x0 x1 x2 x3 x4 y0 y1 y2 yf c0 c1 c2
            go_wp2_with fail
            go_roundw
            case rel => exact ⟨k + 1, L', by omega, by first | rfl | rw [HL.out], by first | rfl | rw [HC.out], by go_num, HN4.out.more _, (HX4.out.more _), HB4.out.alloc HB4.out.size _⟩
            case measure => simp [intOf]; omega
      | true =>
        simp only [Bool.true_eq_false, if_false, true_and] at hlen hcnt
        by_cases h4 : xk % 9 < 4
        · rw [if_pos h4] at hlen
          simp only [if_pos h4] at hcnt
          have q1 : decide (xk % 9 < 4) = true := by simp [h4]
          have q2 : decide (xk % 9 ≥ 4) = false := by simp; omega
          by_cases hW : xm = c
          · rw [if_pos hW] at hcnt
            subst hW
            have ewl : IntKind.i64.wrap ((L.length : Int) + 1) = (L'.length : Int) := (IntWalk.i64_in _ (by omega)).trans (by omega)
            have HL := Lib.hid (rfl : (0 : Nat) = 0)
            have ewc : IntKind.i64.wrap ((cntM L xm : Int) + 1) = (cntM L' xm : Int) := (IntWalk.i64_in _ (by omega)).trans (by omega)
            have HC := Lib.hid (rfl : (0 : Nat) = 0)
            have d5 : decide ((L'.length : Int) < 0) = false := by simp
            have d6 : decide ((L'.length : Int) > 64) = false := by simp; omega
            clear hlen hcnt
            go_wp2_with fail
            with_reducible refine (C3.out _ (HN4.out.more _ |>.other (Ne.symm hYb) 0 _ |>.other (Ne.symm hYb) 1 _ |>.other (Ne.symm hYb) 2 _)).mono ?_
            rintro e w3 ⟨rfl, rfl⟩
            clear x0 x1 x2 x3 x4 y0 y1 y2 yf c0 c1 c2
            go_wp2_with fail
            go_roundw
            case rel => exact ⟨k + 1, L', by omega, by first | rfl | rw [HL.out], by first | rfl | rw [HC.out], by go_num, HN4.out.more _ |>.other (Ne.symm hYb) 0 _ |>.other (Ne.symm hYb) 1 _ |>.other (Ne.symm hYb) 2 _, ((HX4.out.more _).other (Ne.symm hYX) 0 _ |>.other (Ne.symm hYX) 1 _ |>.other (Ne.symm hYX) 2 _), (((HB4.out.alloc HB4.out.size _).setCell hYw _).setCell hYw _).setCell hYw _⟩
            case measure => simp [intOf]; omega
          · rw [if_neg hW] at hcnt
            have ewl : IntKind.i64.wrap ((L.length : Int) + 1) = (L'.length : Int) := (IntWalk.i64_in _ (by omega)).trans (by omega)
            have HL := Lib.hid (rfl : (0 : Nat) = 0)
            have HC := Lib.hid (show cntM L' c = cntM L c from by omega)
            have d5 : decide ((L'.length : Int) < 0) = false := by simp
            have d6 : decide ((L'.length : Int) > 64) = false := by simp; omega
            clear hlen hcnt
            go_wp2_with fail
            all_goals first
              | exact absurd (Ml.ext' (by assumption) (by assumption) (by assumption)) hW
              | skip
            all_goals
              with_reducible refine (C3.out _ (HN4.out.more _ |>.other (Ne.symm hYb) 0 _ |>.other (Ne.symm hYb) 1 _ |>.other (Ne.symm hYb) 2 _)).mono ?_
              rintro e w3 ⟨rfl, rfl⟩
              clear x0 x1 x2 x3 x4 y0 y1 y2 yf c0 c1 c2
              go_wp2_with fail
              go_roundw
              case rel => exact ⟨k + 1, L', by omega, by first | rfl | rw [HL.out], by first | rfl | rw [HC.out], by go_num, HN4.out.more _ |>.other (Ne.symm hYb) 0 _ |>.other (Ne.symm hYb) 1 _ |>.other (Ne.symm hYb) 2 _, ((HX4.out.more _).other (Ne.symm hYX) 0 _ |>.other (Ne.symm hYX) 1 _ |>.other (Ne.symm hYX) 2 _), (((HB4.out.alloc HB4.out.size _).setCell hYw _).setCell hYw _).setCell hYw _⟩
              case measure => simp [intOf]; omega
        rw [if_neg h4] at hlen
        simp only [if_neg h4] at hcnt
        have q1 : decide (xk % 9 < 4) = false := by simp; omega
        have q2 : decide (xk % 9 ≥ 4) = true := by simp; omega
        by_cases h7 : xk % 9 = 7
        · obtain rfl : is_ = true := HLB.out _ h7 (by omega) (by omega) rfl
          rw [if_pos h7] at hlen
          simp only [if_pos h7] at hcnt
          rw [h7] at q1 q2
          by_cases hW : m0 = c
          · rw [if_pos hW] at hcnt
            subst hW
            have ewl : IntKind.i64.wrap ((L.length : Int) + 1) = (L'.length : Int) := (IntWalk.i64_in _ (by omega)).trans (by omega)
            have HL := Lib.hid (rfl : (0 : Nat) = 0)
            have ewc : IntKind.i64.wrap ((cntM L m0 : Int) + 1) = (cntM L' m0 : Int) := (IntWalk.i64_in _ (by omega)).trans (by omega)
            have HC := Lib.hid (rfl : (0 : Nat) = 0)
            have d5 : decide ((L'.length : Int) < 0) = false := by simp
            have d6 : decide ((L'.length : Int) > 64) = false := by simp; omega
            clear hlen hcnt
            go_wp2_with fail
            with_reducible refine (C3.out _ (HN4.out.more _)).mono ?_
            rintro e w3 ⟨rfl, rfl⟩
            clear x0 x1 x2 x3 x4 y0 y1 y2 yf c0 c1 c2
            go_wp2_with fail
            go_roundw
            case rel => exact ⟨k + 1, L', by omega, by first | rfl | rw [HL.out], by first | rfl | rw [HC.out], by go_num, HN4.out.more _, (HX4.out.more _), HB4.out.alloc HB4.out.size _⟩
            case measure => simp [intOf]; omega
          · rw [if_neg hW] at hcnt
            have ewl : IntKind.i64.wrap ((L.length : Int) + 1) = (L'.length : Int) := (IntWalk.i64_in _ (by omega)).trans (by omega)
            have HL := Lib.hid (rfl : (0 : Nat) = 0)
            have HC := Lib.hid (show cntM L' c = cntM L c from by omega)
            have d5 : decide ((L'.length : Int) < 0) = false := by simp
            have d6 : decide ((L'.length : Int) > 64) = false := by simp; omega
            clear hlen hcnt
            go_wp2_with fail
            all_goals first
              | exact absurd (Ml.ext' (by assumption) (by assumption) (by assumption)) hW
              | skip
            all_goals
              with_reducible refine (C3.out _ (HN4.out.more _)).mono ?_
              rintro e w3 ⟨rfl, rfl⟩
              clear x0 x1 x2 x3 x4 y0 y1 y2 yf c0 c1 c2
              go_wp2_with fail
              go_roundw
              case rel => exact ⟨k + 1, L', by omega, by first | rfl | rw [HL.out], by first | rfl | rw [HC.out], by go_num, HN4.out.more _, (HX4.out.more _), HB4.out.alloc HB4.out.size _⟩
              case measure => simp [intOf]; omega
        rw [if_neg h7] at hlen
        simp only [if_neg h7] at hcnt
        have q7 : (xk % 9 == 7) = false := by simp [h7]
        by_cases h44 : xk % 9 = 4
        · rw [if_pos h44] at hlen
          simp only [if_pos h44] at hcnt
          rw [h44] at q1 q2 q7
          by_cases hW : m0 = c
          · rw [if_pos hW] at hcnt
            subst hW
            have hL : L'.length = L.length := by omega
            have HL := Lib.hid hL
            have HC := Lib.hid (show cntM L' m0 = cntM L m0 from by omega)
            have d5 : decide ((L'.length : Int) < 0) = false := by simp
            have d6 : decide ((L'.length : Int) > 64) = false := by simp; omega
            have d7 : decide ((L.length : Int) < 0) = false := by simp
            have d8 : decide ((L.length : Int) > 64) = false := by simp; omega
            clear hlen hcnt
            go_wp2_with fail
            with_reducible refine (C3.out _ (HN4.out.more _)).mono ?_
            rintro e w3 ⟨rfl, rfl⟩
            clear x0 x1 x2 x3 x4 y0 y1 y2 yf c0 c1 c2
            go_wp2_with fail
            go_roundw
            case rel => exact ⟨k + 1, L', by omega, by first | rfl | rw [HL.out], by first | rfl | rw [HC.out], by go_num, HN4.out.more _, (HX4.out.more _), HB4.out.alloc HB4.out.size _⟩
            case measure => simp [intOf]; omega
          · rw [if_neg hW] at hcnt
            have hL : L'.length = L.length := by omega
            have HL := Lib.hid hL
            have HC := Lib.hid (show cntM L' c = cntM L c from by omega)
            have d5 : decide ((L'.length : Int) < 0) = false := by simp
            have d6 : decide ((L'.length : Int) > 64) = false := by simp; omega
            have d7 : decide ((L.length : Int) < 0) = false := by simp
            have d8 : decide ((L.length : Int) > 64) = false := by simp; omega
            clear hlen hcnt
            go_wp2_with fail
            all_goals first
              | exact absurd (Ml.ext' (by assumption) (by assumption) (by assumption)) hW
              | skip
            all_goals
              with_reducible refine (C3.out _ (HN4.out.more _)).mono ?_
              rintro e w3 ⟨rfl, rfl⟩
              clear x0 x1 x2 x3 x4 y0 y1 y2 yf c0 c1 c2
              go_wp2_with fail
              go_roundw
              case rel => exact ⟨k + 1, L', by omega, by first | rfl | rw [HL.out], by first | rfl | rw [HC.out], by go_num, HN4.out.more _, (HX4.out.more _), HB4.out.alloc HB4.out.size _⟩
              case measure => simp [intOf]; omega
        obtain rfl : is_ = true := HLB.out _ rfl (by omega) h44 rfl
        rw [if_neg h44] at hlen
        simp only [if_neg h44] at hcnt
        have q44 : (xk % 9 == 4) = false := by simp [h44]
        by_cases hW : m0 = c
        · rw [if_pos hW] at hcnt
          subst hW
          have ewl : IntKind.i64.wrap ((L.length : Int) + -1) = (L'.length : Int) := (IntWalk.i64_in _ (by omega)).trans (by omega)
          have HL := Lib.hid (rfl : (0 : Nat) = 0)
          have ewc : IntKind.i64.wrap ((cntM L m0 : Int) + -1) = (cntM L' m0 : Int) := (IntWalk.i64_in _ (by omega)).trans (by omega)
          have HC := Lib.hid (rfl : (0 : Nat) = 0)
          have d5 : decide ((L'.length : Int) < 0) = false := by simp
          have d6 : decide ((L'.length : Int) > 64) = false := by simp; omega
          clear hlen hcnt
          go_wp2_with fail
          with_reducible refine (C3.out _ (HN4.out.more _)).mono ?_
          rintro e w3 ⟨rfl, rfl⟩
          clear x0 x1 x2 x3 x4 y0 y1 y2 yf c0 c1 c2
          go_wp2_with fail
          go_roundw
          case rel => exact ⟨k + 1, L', by omega, by first | rfl | rw [HL.out], by first | rfl | rw [HC.out], by go_num, HN4.out.more _, (HX4.out.more _), HB4.out.alloc HB4.out.size _⟩
          case measure => simp [intOf]; omega
        · rw [if_neg hW] at hcnt
          have ewl : IntKind.i64.wrap ((L.length : Int) + -1) = (L'.length : Int) := (IntWalk.i64_in _ (by omega)).trans (by omega)
          have HL := Lib.hid (rfl : (0 : Nat) = 0)
          have HC := Lib.hid (show cntM L' c = cntM L c from by omega)
          have d5 : decide ((L'.length : Int) < 0) = false := by simp
          have d6 : decide ((L'.length : Int) > 64) = false := by simp; omega
          clear hlen hcnt
          go_wp2_with fail
          all_goals first
            | exact absurd (Ml.ext' (by assumption) (by assumption) (by assumption)) hW
            | skip
          all_goals
            with_reducible refine (C3.out _ (HN4.out.more _)).mono ?_
            rintro e w3 ⟨rfl, rfl⟩
            clear x0 x1 x2 x3 x4 y0 y1 y2 yf c0 c1 c2
            go_wp2_with fail
            go_roundw
            case rel => exact ⟨k + 1, L', by omega, by first | rfl | rw [HL.out], by first | rfl | rw [HC.out], by go_num, HN4.out.more _, (HX4.out.more _), HB4.out.alloc HB4.out.size _⟩
            case measure => simp [intOf]; omega
    · obtain rfl : k = A.length := by omega
      have d2 : decide ((A.length : Int) < (A.length : Int)) = false := by simp
      have C1 := Lib.hid (netAll_row HN1.out)
      clear HR HOK
      go_wp2_with fail
      with_reducible refine (C1.out).mono ?_
      rintro e w1 ⟨ro, rc, rfl, hrc, hrow, -, -, hb⟩
      have hb1 : w.heap.size ≤ w1.heap.size := by have := HB1.out.size; have := hb.size; omega
      have HX5 := Lib.hid (HX1.out.below hb)
      have HB5 := Lib.hid (below_step HB1.out hb)
      have HR5 := Lib.hid hrow
      clear hb hrow C1 HN1 HX1 HB1
      have z0 : w1.cell? ⟨w.heap.size, 0, none⟩ = some (.int .i64 c.src) := HX5.out.cell 0
      have z1 : w1.cell? ⟨w.heap.size, 1, none⟩ = some (.int .i64 c.dst) := HX5.out.cell 1
      have z2 : w1.cell? ⟨w.heap.size, 2, none⟩ = some (.string (S c.dat)) := HX5.out.cell 2
      go_wp2_with fail
      go_loopw [7, 16] (fun of_ i' wq => ∃ k : Nat, k ≤ L.length ∧ of_ = .int .i64 (cntM (L.drop k) c) ∧ i' = .int .i64 k ∧ Below w1.heap.size w1 wq) (fun _ i' _ => L.length - (intOf i').toNat)
      case atStart => exact ⟨0, by omega, rfl, rfl, Below.refl _ _⟩
      case round =>
        rename_i wq
        obtain ⟨k, hk, rfl, rfl, hbq⟩ := hrel
        have HBQ := Lib.hid hbq
        have HB6 := Lib.hid (below_step HB5.out hbq)
        replace z0 := (hbq.cell (block_lt_of_cell z0)).trans z0
        replace z1 := (hbq.cell (block_lt_of_cell z1)).trans z1
        replace z2 := (hbq.cell (block_lt_of_cell z2)).trans z2
        by_cases hlt : k < L.length
        · have d3 : decide ((k : Int) < (L.length : Int)) = true := by simp; omega
          obtain ⟨g, o, rfl⟩ := HR5.out.addr (fun h => by rw [h] at hlt; simp at hlt)
          obtain ⟨y0, y1, y2⟩ := (HR5.out.below hbq).cells7 k hlt
          clear hbq
          have hcu : (cntM (L.drop k) c : Int) = cntM (L.drop (k + 1)) c + (if L.getD k ml0 = c then 1 else 0) := by
            rw [List.drop_eq_getElem_cons hlt, cntM_cons, show L.getD k ml0 = L[k] from by simp [List.getD, List.getElem?_eq_getElem hlt]]
          have hcl1 : cntM (L.drop k) c ≤ 64 := by
            have h1 : cntM (L.drop k) c ≤ (L.drop k).length := List.length_filter_le _ _
            simp at h1; omega
          generalize L.getD k ml0 = ym at *
          by_cases hW : ym = c
          · rw [if_pos hW] at hcu
            subst hW
            have ew : IntKind.i64.wrap ((cntM (L.drop k) ym : Int) - 1) = (cntM (L.drop (k + 1)) ym : Int) := (IntWalk.i64_in _ (by omega)).trans (by omega)
            have ew' : IntKind.i64.wrap ((cntM (L.drop k) ym : Int) + -1) = (cntM (L.drop (k + 1)) ym : Int) := (IntWalk.i64_in _ (by omega)).trans (by omega)
            clear hcu
            go_wp2_with fail
            go_region
            go_wp2_with fail
            go_roundw
            case rel => exact ⟨k + 1, by omega, rfl, by go_num, HBQ.out.drew⟩
            case measure => simp [intOf]; omega
          · rw [if_neg hW] at hcu
            have HC := Lib.hid (show cntM (L.drop k) c = cntM (L.drop (k + 1)) c from by omega)
            clear hcu
            have h3 : ¬ ym.src = c.src ∨ (ym.src = c.src ∧ ¬ ym.dst = c.dst) ∨ (ym.src = c.src ∧ ym.dst = c.dst ∧ ¬ ym.dat = c.dat) := by
              by_cases f1 : ym.src = c.src
              · by_cases f2 : ym.dst = c.dst
                · exact .inr (.inr ⟨f1, f2, fun f3 => hW (Ml.ext' f1 f2 f3)⟩)
                · exact .inr (.inl ⟨f1, f2⟩)
              · exact .inl f1
            clear hW
            rcases h3 with f1 | ⟨f1, f2⟩ | ⟨f1, f2, f3⟩
            all_goals
              go_wp2_with fail
              go_region
              go_wp2_with fail
              go_roundw
              case rel => exact ⟨k + 1, by omega, by rw [HC.out], by go_num, HBQ.out.drew⟩
              case measure => simp [intOf]; omega
        · obtain rfl : k = L.length := by omega
          have d3 : decide ((L.length : Int) < (L.length : Int)) = false := by simp
          have h0 : cntM (L.drop L.length) c = 0 := by rw [List.drop_length]; rfl
          go_wp2_with fail
          with_reducible refine (does7 _).mono ?_
          rintro e w9 ⟨rfl, hb⟩
          have HB9 := Lib.hid (below_step HB6.out hb)
          clear hb
          go_wp2_with fail
          go_ret
          exact ⟨rfl, HB9.out⟩

end Go.Proofs.Ytggflkjdpibioaa
