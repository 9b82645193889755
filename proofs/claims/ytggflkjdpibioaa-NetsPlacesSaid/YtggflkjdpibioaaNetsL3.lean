/- Layer 7: the laws' walks: NetsPlaces. -/
import Derived.Test.YtggflkjdpibioaaNetsG
import Derived.Deep.RegionHeld3
namespace Go.Proofs.Ytggflkjdpibioaa
set_option linter.unusedVariables false
open Go Go.RowKit

theorem own_parts {w : World} {B : Nat} {T : TypeId} {v : Value} {L : List Ml} (h : w.ownsRow B T 3 v L.length (mls L)) :
    ∃ ao cap, v = .slice ao L.length cap ∧ L.length ≤ cap ∧ MlRow w (.slice ao L.length cap) L ∧ (∀ a, ao = some a → B ≤ a.block) ∧ (ao = none ∧ cap = 0 ∨ ∃ g, ao = some ⟨g, 0, none⟩) := by
  have hr := mlRow_of h
  rcases h.2 with ⟨rfl, h0⟩ | ⟨g, cap, cur, rfl, hB, hg, hc, _⟩
  · have : L = [] := List.eq_nil_of_length_eq_zero h0
    subst this
    exact ⟨none, 0, rfl, by simp, hr, (fun a h => by cases h), .inl ⟨rfl, rfl⟩⟩
  · exact ⟨_, cap, rfl, hc, hr, (fun a h => by cases h; exact hB), .inr ⟨g, rfl⟩⟩
theorem netAll_row {w : World} {b : Nat} {L : List Ml} (h : NetIn w b L) :
    Calls Try.prog 14 #[.pointer (some ⟨b, 0, none⟩)] w fun e w' => ∃ ao cap, e = .returned (.slice ao L.length cap) ∧ L.length ≤ cap ∧ MlRow w' (.slice ao L.length cap) L ∧ (∀ a, ao = some a → w.heap.size ≤ a.block) ∧ (ao = none ∧ cap = 0 ∨ ∃ g, ao = some ⟨g, 0, none⟩) ∧ Below w.heap.size w w' :=
  (netAll_any h).mono fun e w' ⟨v, he, hr, hb⟩ => by
    obtain ⟨ao, cap, rfl, hc, hm, hB, hs⟩ := own_parts hr
    exact ⟨ao, cap, he, hc, hm, hB, hs, hb⟩
theorem MlRow.drew {w : World} {v : Value} {L : List Ml} (h : MlRow w v L) : MlRow w.drew v L := h
theorem MlRow.addr {w : World} {ao : Option Addr} {n cap : Nat} {L : List Ml} (h : MlRow w (.slice ao n cap) L) (hne : L ≠ []) : ∃ g o, ao = some ⟨g, o, none⟩ := by
  obtain ⟨ao', cap', e, h⟩ := h
  injection e with e1 e2 e3
  obtain ⟨g, o, e, _⟩ := h hne
  exact ⟨g, o, e1.trans e⟩

theorem MlRow.cells7 {W : World} {g o n cap : Nat} {L : List Ml} (h : MlRow W (.slice (some ⟨g, o, none⟩) n cap) L) (j : Nat) (hj : j < L.length) :
    W.cell? ⟨g, o + j * 3, none⟩ = some (.int .i64 (L.getD j ml0).src) ∧ W.cell? ⟨g, o + j * 3 + 1, none⟩ = some (.int .i64 (L.getD j ml0).dst) ∧ W.cell? ⟨g, o + j * 3 + 2, none⟩ = some (.string (S (L.getD j ml0).dat)) := by
  obtain ⟨ao', cap', e, h⟩ := h
  injection e with e1 e2 e3
  obtain ⟨g', o', e, hc⟩ := h (fun h => by rw [h] at hj; simp at hj)
  rw [e] at e1
  injection e1 with e1
  injection e1 with e4 e5
  subst e4 e5
  exact hc j hj
theorem MlRow.only7 {w w' : World} {b : Nat} {ao : Option Addr} {n cap : Nat} {L : List Ml} (h : MlRow w (.slice ao n cap) L) (hb : Only b w w') (hn : ∀ a, ao = some a → a.block ≠ b) : MlRow w' (.slice ao n cap) L := by
  obtain ⟨ao', cap', e, h⟩ := h
  cases e
  refine ⟨ao, cap, rfl, fun hne => ?_⟩
  obtain ⟨g, off, rfl, hc⟩ := h hne
  have hg := hn _ rfl
  have k := fun {j v} (h : w.cell? ⟨g, j, none⟩ = some v) => hb.cell (p := ⟨g, j, none⟩) hg h
  exact ⟨g, off, rfl, fun j hj => ⟨k (hc j hj).1, k (hc j hj).2.1, k (hc j hj).2.2⟩⟩
theorem row_pre {W : World} {a : Addr} {L : List Ml} {N cap : Nat} (h : MlRow W (.slice (some a) N cap) L) (k : Nat) (hk : k ≤ L.length) (c : Nat) : MlRow W (.slice (some a) k c) (L.take k) := by
  obtain ⟨ao', cap', e, h⟩ := h
  cases e
  refine ⟨some a, c, by rw [List.length_take, Nat.min_eq_left hk], fun hne => ?_⟩
  obtain ⟨g, off, e, hc⟩ := h (fun hL => hne (by rw [hL]; simp))
  refine ⟨g, off, e, fun j hj => ?_⟩
  have hjk : j < k := by simp at hj; omega
  have hjL : j < L.length := by omega
  have := hc j hjL
  rw [show (L.take k).getD j ml0 = L.getD j ml0 from by simp [List.getD, hjk]]
  exact this
theorem mlrow_nil (W : World) (ao : Option Addr) (c : Nat) : MlRow W (.slice ao 0 c) [] := ⟨ao, c, rfl, fun h => absurd rfl h⟩
theorem mlrow_nilx {W : World} {L : List Ml} (hL : L = []) (ao : Option Addr) (M c : Nat) (hM : M = 0) : MlRow W (.slice ao M c) L := by
  subst hL hM
  exact mlrow_nil W ao c
theorem row_suf {W : World} {g o : Nat} {L : List Ml} {N cap : Nat} (h : MlRow W (.slice (some ⟨g, o, none⟩) N cap) L) (k M : Nat) (hM : M = L.length - k) (c : Nat) : MlRow W (.slice (some ⟨g, o + k * 3, none⟩) M c) (L.drop k) := by
  obtain ⟨ao', cap', e, h⟩ := h
  cases e
  refine ⟨_, c, by rw [List.length_drop, hM], fun hne => ?_⟩
  obtain ⟨g', off, e, hc⟩ := h (fun hL => hne (by rw [hL]; simp))
  cases e
  refine ⟨_, _, rfl, fun j hj => ?_⟩
  have hjL : k + j < L.length := by simp at hj; omega
  have := hc (k + j) hjL
  rw [show (L.drop k).getD j ml0 = L.getD (k + j) ml0 from by simp [List.getD]]
  rw [show o + k * 3 + j * 3 = o + (k + j) * 3 from by omega]
  exact this

set_option maxHeartbeats 4000000 in
set_option maxRecDepth 100000 in
theorem netsPlaces_calls (u : Value) (i : Int) (hi : (Lit.int .i64 i).wf = true) (w : World) (hu : ∃ A, AcRow w u A) :
    Calls Try.prog 6 #[u, .int .i64 i] w fun e w' => e = .returned (.bool true) ∧ Below w.heap.size w w' := by
  obtain ⟨A, hA⟩ := hu
  have C0 := Lib.hid (great7_any hA)
  have hi' := i64_wf7 hi
  clear hi
  obtain ⟨ao, cap, rfl, hm, hok, hrow⟩ := hA
  unfold maxLen at hm
  have HR := Lib.hid hrow
  have HOK := Lib.hid hok
  clear hrow hok
  go_enter Try.func6, Try.ntmps6
  go_wp2_with fail
  with_reducible refine (C0.out).mono ?_
  rintro e W1 ⟨rfl | ⟨rfl, hbd⟩, rfl⟩
  · go_wp2_with fail
    go_ret
    exact ⟨rfl, Below.refl _ _⟩
  have HBD := Lib.hid hbd
  clear hbd C0
  go_wp2_with fail
  with_reducible refine (netNew_any w).mono ?_
  rintro e w0 ⟨rfl, hN0, hb0⟩
  have HN := Lib.hid hN0
  have HB := Lib.hid hb0
  clear hN0 hb0
  generalize hbe : w.heap.size = b at *
  have HBE := Lib.hid hbe
  clear hbe
  go_wp2_with fail
  go_loopw [6] (fun i' wr => ∃ (k : Nat) (L : List Ml), k ≤ A.length ∧ i' = .int .i64 k ∧ NetIn wr b L ∧ Below b w wr) (fun i' _ => A.length - (intOf i').toNat)
  case atStart => exact ⟨0, [], by omega, rfl, HN.out, HB.out⟩
  case round =>
    rename_i wr
    obtain ⟨k, L, hk, rfl, hN, hB⟩ := hrel
    by_cases hlt : k < A.length
    · have d2 : decide ((k : Int) < (A.length : Int)) = true := by simp; omega
      have hne : A ≠ [] := fun h => by rw [h] at hlt; simp at hlt
      obtain ⟨g, off, rfl, hc⟩ := HR.out hne
      obtain ⟨x0, x1, x2, x3, x4⟩ := hc k hlt
      have hgb : g < b := by rw [← HBE.out]; exact block_lt_of_cell x0
      replace x0 := (hB.cell hgb).trans x0
      replace x1 := (hB.cell hgb).trans x1
      replace x2 := (hB.cell hgb).trans x2
      replace x3 := (hB.cell hgb).trans x3
      replace x4 := (hB.cell hgb).trans x4
      have hmem : A.getD k ac0 ∈ A := by simp only [List.getD, List.getElem?_eq_getElem hlt, Option.getD_some]; exact List.getElem_mem _
      have C1 := Lib.hid (done_any hN (A.getD k ac0) (HOK.out _ hmem))
      have HB2 := Lib.hid hB
      clear hc hN hB HN HB hmem
      generalize A.getD k ac0 = x at *
      go_wp2_with fail
      with_reducible refine (C1.out).mono ?_
      rintro e w2 ⟨rfl, hN, hO⟩
      have HN := Lib.hid hN
      have HB3 := Lib.hid (HB2.out.trans (hO.below (Nat.le_refl _) (by have := HB2.out.size; have := HBE.out; omega)))
      clear hN hO
      go_wp2_with fail
      go_roundw
      case rel => exact ⟨k + 1, _, by omega, by go_num, HN.out, HB3.out⟩
      case measure => simp [intOf]; omega
    · obtain rfl : k = A.length := by omega
      have d2 : decide ((A.length : Int) < (A.length : Int)) = false := by simp
      have hbw : w.heap.size ≤ wr.heap.size := hB.size
      have hbw2 : b ≤ wr.heap.size := by have := HBE.out; omega
      have C1 := Lib.hid (netAll_row hN)
      have HN1 := Lib.hid hN
      have HB1 := Lib.hid hB
      have h64 := hN.le
      clear hN hB HN HB HR HOK HBD
      go_wp2_with fail
      with_reducible refine (C1.out).mono ?_
      rintro e w1 ⟨wo, wc, rfl, hwc, hrow, hwo, -, hb⟩
      have HWO := Lib.hid (fun a (h : wo = some a) => (show a.block ≠ b from by have := hwo a h; have := HN1.out.lt; omega))
      have HN2 := Lib.hid (HN1.out.below hb)
      have HB2 := Lib.hid (HB1.out.trans (hb.mono hbw2))
      have HW2 := Lib.hid hrow
      clear hb hrow hwo C1
      have hb2 : b ≤ w1.heap.size := by have := HB2.out.size; have := HBE.out; omega
      by_cases hin : 0 ≤ i ∧ i < L.length
      · obtain ⟨n, rfl⟩ := Int.eq_ofNat_of_zero_le hin.1
        have hn : n < L.length := by omega
        have C2 := Lib.hid (netLook_yes HN2.out n hn)
        have hgl : ∃ ym, L.getD n ml0 = ym := ⟨_, rfl⟩
        obtain ⟨ym, hym⟩ := hgl
        rw [hym] at C2
        have HYM := Lib.hid hym
        clear hym
        have d3 : decide ((n : Int) ≥ 0) = true := by simp
        have d4 : decide ((n : Int) < (L.length : Int)) = true := by simp; omega
        go_wp2_with fail
        with_reducible refine (C2.out).mono ?_
        rintro e w2 ⟨rfl, hb⟩
        have HN3 := Lib.hid (HN2.out.below hb)
        have HB3 := Lib.hid (HB2.out.trans (hb.mono hb2))
        have HW3 := Lib.hid (HW2.out.below hb)
        have hb3 : b ≤ w2.heap.size := by have := hb.size; omega
        clear hb C2 HN2 HB2 HW2
        go_wp2_with fail
        with_reducible refine (netAll_row (HN3.out.more _)).mono ?_
        rintro e w3 ⟨vo, vc, rfl, hvc, hrow, -, -, hb⟩
        replace hb := below_step ((Below.refl w2.heap.size w2).alloc (Nat.le_refl _) _) hb
        have HN4 := Lib.hid (HN3.out.below hb)
        have HB4 := Lib.hid (HB3.out.trans (hb.mono hb3))
        have HW4 := Lib.hid (HW3.out.below hb)
        have hb4 : b ≤ w3.heap.size := by have := hb.size; omega
        have C4 := Lib.hid (same_any hrow HW4.out (by omega))
        clear hb hrow HN3 HB3 HW3
        go_wp2_with fail
        with_reducible refine (C4.out).mono ?_
        rintro e w4 ⟨rfl, hb⟩
        have HN5 := Lib.hid (HN4.out.below hb)
        have HB5 := Lib.hid (HB4.out.trans (hb.mono hb4))
        have HW5 := Lib.hid (HW4.out.below hb)
        have hb5 : b ≤ w4.heap.size := by have := hb.size; omega
        clear hb C4 HN4 HB4 HW4
        by_cases hl : L.length < 64
        · have d5 : decide ((L.length : Int) < 64) = true := by simp; omega
          have C5 := Lib.hid (netDouble_room HN5.out n hn hl)
          go_wp2_with fail
          with_reducible refine (C5.out).mono ?_
          rintro e w5 ⟨rfl, hN, hO⟩
          rw [HYM.out] at hN
          have HN6 := Lib.hid hN
          have HB6 := Lib.hid (HB5.out.trans (hO.below (Nat.le_refl _) hb5))
          have hb6 : b ≤ w5.heap.size := by have := hO.size; omega
          have hL1 : (L.take (n + 1) ++ ym :: L.drop (n + 1)).length = L.length + 1 := by simp; omega
          have c6 := netAll_row hN
          rw [hL1] at c6
          have C6 := Lib.hid c6
          have hne : L ≠ [] := fun h => by rw [h] at hn; simp at hn
          obtain ⟨g0, o0, rfl⟩ := HW5.out.addr hne
          clear hN C5 HN5 HB5 c6
          go_wp2_with fail
          with_reducible refine (C6.out).mono ?_
          rintro e w6 ⟨no, nc, rfl, hnc, hrow, -, -, hb⟩
          have HN7 := Lib.hid (HN6.out.below hb)
          have HB7 := Lib.hid (HB6.out.trans (hb.mono hb6))
          have hb7 : b ≤ w6.drew.heap.size := by have h := hb.size; have : w6.drew.heap.size = w6.heap.size := rfl; omega
          obtain ⟨g1, o1, rfl⟩ := hrow.addr (by simp)
          have HW7 := Lib.hid ((HW5.out.only7 hO HWO.out).below hb)
          have hT1 : (L.take (n + 1) ++ ym :: L.drop (n + 1)).take (n + 1) = L.take (n + 1) := by rw [List.take_append_of_le_length (by simp; omega), List.take_take, Nat.min_self]
          have hgn : L[n] = ym := by rw [← HYM.out]; simp [List.getD, List.getElem?_eq_getElem hn]
          have hT2 : (L.take (n + 1) ++ ym :: L.drop (n + 1)).drop (n + 1) = L.drop n := by
            rw [List.drop_left' (by simp; omega), List.drop_eq_getElem_cons hn, hgn]
          have hT3 : (L.take (n + 1) ++ ym :: L.drop (n + 1)).take n ++ (L.take (n + 1) ++ ym :: L.drop (n + 1)).drop (n + 1) = L := by
            rw [hT2, List.take_append_of_le_length (by simp; omega), List.take_take, Nat.min_eq_left (by omega), List.take_append_drop]
          have c9 := fun W (h : NetIn W b (L.take (n + 1) ++ ym :: L.drop (n + 1))) => netLose_yes h n (by simp; omega)
          rw [hT3] at c9
          have C9 := Lib.hid c9
          have q1 : ¬ nc = n + 1 := by omega
          have q2 : ¬ wc = n := by omega
          have HP1 := Lib.hid (fun c => (hT1 ▸ row_pre hrow (n + 1) (by simp; omega) c : MlRow w6 (.slice (some ⟨g1, o1, none⟩) (n + 1) c) (L.take (n + 1))))
          have HP2 := Lib.hid (fun c => row_pre HW7.out (n + 1) hn c)
          have HS1 := Lib.hid (fun c M (hM : M = L.length - n) => (hT2 ▸ row_suf hrow (n + 1) M (by simp; omega) c : MlRow w6 (.slice (some ⟨g1, o1 + (n + 1) * 3, none⟩) M c) (L.drop n)))
          have HS2 := Lib.hid (fun c M (hM : M = L.length - n) => row_suf HW7.out n M hM c)
          have b1 : (0 : Int) ≤ (n : Int) + 1 := by omega
          have b2 : (n : Int) + 1 ≤ (nc : Int) := by omega
          have b3 : (n : Int) + 1 ≤ (wc : Int) := by omega
          have b4 : (n : Int) + 1 ≤ (L.length : Int) + 1 := by omega
          have b5 : (n : Int) ≤ (L.length : Int) := by omega
          have b6 : (0 : Int) ≤ (n : Int) := by omega
          have b7 : (L.length : Int) ≤ (wc : Int) := by omega
          have b8 : (L.length : Int) + 1 ≤ (nc : Int) := by omega
          clear hT1 hT2 hT3 hgn c9 hL1 hrow hO hb
          have ew : IntKind.i64.wrap ((n : Int) + 1) = (n : Int) + 1 := IntWalk.i64_in _ (by omega)
          have ew2 : IntKind.i64.wrap ((L.length : Int) + 1) = (L.length : Int) + 1 := IntWalk.i64_in _ (by omega)
          go_wp2_with fail
          go_region_held3 (fun _ => True) (trivial) (first
            | (go_at_call 15; have _t := HB8; clear _t; refine (same_any (L := L.drop n) (w := w7) (HS1b.out _ _ rfl) (HS2b.out _ _ rfl) (by simp; omega)).mono ?_; rintro e w8 ⟨rfl, hb⟩; have HN9 := Lib.hid (HN8.out.below hb); have HB9 := Lib.hid (HB8.out.trans (hb.mono hb8)); have HW9 := Lib.hid (HW8.out.below hb); have hb9 : b ≤ w8.heap.size := (by have := hb.size; omega); clear hb)
            | (go_at_call 15; refine (same_any (L := L.take (n + 1)) (w := w6.drew) (HP1.out _) (HP2.out _) (by simp; omega)).mono ?_; rintro e w7 ⟨rfl, hb⟩; have HN8 := Lib.hid (HN7.out.drew.below hb); have HB8 := Lib.hid (HB7.out.drew.trans (hb.mono hb7)); have HW8 := Lib.hid (HW7.out.drew.below hb); have hb8 : b ≤ w7.heap.size := (by have h := hb.size; have : w6.drew.heap.size = w6.heap.size := rfl; omega); have HS1b := Lib.hid (fun c M hM => (HS1.out c M hM).drew.below hb); have HS2b := Lib.hid (fun c M hM => (HS2.out c M hM).drew.below hb); clear hb)
            | (go_at_call 19; refine (C9.out _ (by exact HN9.out)).mono ?_; rintro e w9 ⟨rfl, hN, hO⟩; have HN10 := Lib.hid hN; have HW10 := Lib.hid (HW9.out.only7 hO HWO.out); have HB10 := Lib.hid (HB9.out.trans (hO.below (Nat.le_refl _) hb9)); have hb10 : b ≤ w9.heap.size := (by have := hO.size; omega); clear hN hO))
          go_wp2_with fail
          have HNz := HN10
          have HWz := HW10
          have HBz := HB10
          have hbz := hb10
          clear HN10 HW10 HB10 hb10 HN9 HW9 HB9 hb9 HN8 HW8 HB8 hb8 HN7 HW7 HB7 hb7 HS1 HS2 HS1b HS2b HP1 HP2 C9 q1 q2 b1 b2 b3 b4 b5 b6 b7 b8 ew ew2
          have c10 := netTake_yes HNz.out n hn
          rw [HYM.out] at c10
          have C10 := Lib.hid c10
          clear c10
          with_reducible refine (C10.out).mono ?_
          rintro e wa ⟨rfl, hN, hO⟩
          obtain ⟨N, hNN⟩ : ∃ N, L.length = N + 1 := ⟨L.length - 1, by omega⟩
          have hL2 : (L.take n ++ L.drop (n + 1)).length = N := by simp; omega
          have HNN := Lib.hid hNN
          clear hNN
          have HNa := Lib.hid hN
          have HWa := Lib.hid (HWz.out.only7 hO (fun a h => HWO.out a h))
          have HBa := Lib.hid (HBz.out.trans (hO.below (Nat.le_refl _) hbz))
          have hba : b ≤ wa.heap.size := by have := hO.size; omega
          clear hN hO C10
          go_wp2_with fail
          have c11 := fun o => netAll_row (HNa.out.more o)
          rw [hL2] at c11
          have C11 := Lib.hid c11
          clear c11
          with_reducible refine (C11.out _).mono ?_
          rintro e wb ⟨so, sc, rfl, hsc, hrow, -, hso, hb0⟩
          have hQ : BlkIn #[.int .i64 ym.src, .int .i64 ym.dst, .string (S ym.dat)] 31 wb wa.heap.size := BlkIn.below (heap_alloc_new wa _) hb0
          have hb := below_step ((Below.refl wa.heap.size wa).alloc (Nat.le_refl _) _) hb0
          have HWb := Lib.hid (HWa.out.below hb)
          have HBb := Lib.hid (HBa.out.trans (hb.mono hba))
          have hbb : b ≤ wb.drew.heap.size := by have h := hb.size; have : wb.drew.heap.size = wb.heap.size := rfl; omega
          have hgn : L[n] = ym := by rw [← HYM.out]; simp [List.getD, List.getElem?_eq_getElem hn]
          have hT1 : (L.take n ++ L.drop (n + 1)).take n = L.take n := by rw [List.take_append_of_le_length (by simp; omega), List.take_take, Nat.min_self]
          have hT2 : (L.take n ++ L.drop (n + 1)).drop n = L.drop (n + 1) := List.drop_left' (by simp; omega)
          obtain ⟨z0, z1, z2⟩ := HWb.out.cells7 n hn
          rw [HYM.out] at z0 z1 z2
          obtain ⟨y0, y1, y2⟩ := ml_cells hQ
          have HP1 := Lib.hid (fun c => row_pre HWb.out n (by omega) c)
          have HP2 := Lib.hid (fun c M (hM : M = L.length - (n + 1)) => row_suf HWb.out (n + 1) M hM c)
          have ew3 : IntKind.i64.wrap ((L.length : Int) - 1) = (N : Int) := (IntWalk.i64_in _ (by omega)).trans (by have := HNN.out; omega)
          have ew4 : IntKind.i64.wrap ((n : Int) + 1) = (n : Int) + 1 := IntWalk.i64_in _ (by omega)
          have b1 : (0 : Int) ≤ (n : Int) := by omega
          have b2 : (n : Int) ≤ (sc : Int) := by have := HNN.out; omega
          have b3 : (n : Int) ≤ (wc : Int) := by omega
          have b4 : (n : Int) ≤ (N : Int) := by have := HNN.out; omega
          have b5 : (0 : Int) ≤ (n : Int) + 1 := by omega
          have b9 : (n : Int) ≤ (n : Int) + 1 := by omega
          have b6 : (n : Int) + 1 ≤ (L.length : Int) := by omega
          have b7 : (L.length : Int) ≤ (wc : Int) := by omega
          have b8 : (N : Int) ≤ (sc : Int) := by omega
          generalize wa.heap.size = Y at *
          rcases hso with ⟨rfl, hsc0⟩ | ⟨g1, rfl⟩
          · have HZ := Lib.hid (show n = 0 ∧ N = 0 from ⟨by have := HNN.out; omega, by omega⟩)
            clear hT1 hT2 hgn hrow hb hb0 hQ hsc0
            go_wp2_with fail
            clear HN1 HB1 HNz HBz HNa HBa C11 hL2
            have hs4 : ¬ sc = n ∨ sc = n := by omega
            have hw4 : ¬ wc = n + 1 ∨ wc = n + 1 := by omega
            rcases hs4 with hsn | hsn <;> rcases hw4 with hwn | hwn
            all_goals
             go_region_held3 (fun W => W.cell? ⟨Y, 0, none⟩ = some (.int .i64 ym.src) ∧ W.cell? ⟨Y, 1, none⟩ = some (.int .i64 ym.dst) ∧ W.cell? ⟨Y, 2, none⟩ = some (.string (S ym.dat)) ∧ W.cell? ⟨g0, o0 + n * 3, none⟩ = some (.int .i64 ym.src) ∧ W.cell? ⟨g0, o0 + n * 3 + 1, none⟩ = some (.int .i64 ym.dst) ∧ W.cell? ⟨g0, o0 + n * 3 + 2, none⟩ = some (.string (S ym.dat))) (go_keep) (first
              | (go_at_call 15; have _t := HBd; clear _t; refine (same_any (w := wd) (L := L.drop (n + 1)) (mlrow_nilx (List.drop_eq_nil_of_le (by have := HNN.out; have := HZ.out; omega)) _ _ _ (by have := HNN.out; have := HZ.out; omega)) (by first | exact HP2b.out _ _ (by have := HNN.out; omega) | exact mlrow_nilx (List.drop_eq_nil_of_le (by have := HNN.out; omega)) _ _ _ (by have := HNN.out; omega)) (by simp; omega)).mono ?_; rintro e we ⟨rfl, hb⟩; have y0e := (hb.cell (block_lt_of_cell y0d)).trans y0d; have y1e := (hb.cell (block_lt_of_cell y1d)).trans y1d; have y2e := (hb.cell (block_lt_of_cell y2d)).trans y2d; have z0e := (hb.cell (block_lt_of_cell z0d)).trans z0d; have z1e := (hb.cell (block_lt_of_cell z1d)).trans z1d; have z2e := (hb.cell (block_lt_of_cell z2d)).trans z2d; have HBe := Lib.hid (HBd.out.trans (hb.mono hbd)); have hbe : b ≤ we.heap.size := (by have h := hb.size; omega); clear hb)
              | (go_at_call 15; refine (same_any (w := wb.drew) (L := L.take n) (mlrow_nilx (by rw [HZ.out.1]; rfl) _ _ _ HZ.out.1) (HP1.out _) (by simp; omega)).mono ?_; rintro e wd ⟨rfl, hb⟩; have y0d := (hb.cell (block_lt_of_cell y0)).trans y0; have y1d := (hb.cell (block_lt_of_cell y1)).trans y1; have y2d := (hb.cell (block_lt_of_cell y2)).trans y2; have z0d := (hb.cell (block_lt_of_cell z0)).trans z0; have z1d := (hb.cell (block_lt_of_cell z1)).trans z1; have z2d := (hb.cell (block_lt_of_cell z2)).trans z2; have HBd := Lib.hid (HBb.out.drew.trans (hb.mono hbb)); have hbd : b ≤ wd.heap.size := (by have h := hb.size; omega); have HP2b := Lib.hid (fun c M hM => (HP2.out c M hM).drew.below hb); clear hb)
              | (go_at_call 16; refine (does7 we).mono ?_; rintro e wf ⟨rfl, hb⟩; have y0f := (hb.cell (block_lt_of_cell y0e)).trans y0e; have y1f := (hb.cell (block_lt_of_cell y1e)).trans y1e; have y2f := (hb.cell (block_lt_of_cell y2e)).trans y2e; have z0f := (hb.cell (block_lt_of_cell z0e)).trans z0e; have z1f := (hb.cell (block_lt_of_cell z1e)).trans z1e; have z2f := (hb.cell (block_lt_of_cell z2e)).trans z2e; have HBf := Lib.hid (HBe.out.trans (hb.mono hbe)); clear hb))
             go_wp2_with fail
             go_ret
             refine ⟨rfl, ?_⟩
             rw [HBE.out]
             exact HBf.out
          · have HS1 := Lib.hid (fun c => (hT1 ▸ row_pre hrow n (by have := HNN.out; simp; omega) c : MlRow wb (.slice (some ⟨g1, 0, none⟩) n c) (L.take n)))
            have HS2 := Lib.hid (fun c M (hM : M = L.length - (n + 1)) => (hT2 ▸ row_suf hrow n M (by have := HNN.out; simp; omega) c : MlRow wb (.slice (some ⟨g1, 0 + n * 3, none⟩) M c) (L.drop (n + 1))))
            clear hT1 hT2 hgn hrow hb hb0 hQ
            go_wp2_with fail
            clear HN1 HB1 HNz HBz HNa HBa C11 hL2
            have hs4 : ¬ sc = n ∨ sc = n := by omega
            have hw4 : ¬ wc = n + 1 ∨ wc = n + 1 := by omega
            rcases hs4 with hsn | hsn <;> rcases hw4 with hwn | hwn
            all_goals
             go_region_held3 (fun W => W.cell? ⟨Y, 0, none⟩ = some (.int .i64 ym.src) ∧ W.cell? ⟨Y, 1, none⟩ = some (.int .i64 ym.dst) ∧ W.cell? ⟨Y, 2, none⟩ = some (.string (S ym.dat)) ∧ W.cell? ⟨g0, o0 + n * 3, none⟩ = some (.int .i64 ym.src) ∧ W.cell? ⟨g0, o0 + n * 3 + 1, none⟩ = some (.int .i64 ym.dst) ∧ W.cell? ⟨g0, o0 + n * 3 + 2, none⟩ = some (.string (S ym.dat))) (go_keep) (first
              | (go_at_call 15; have _t := HBd; clear _t; refine (same_any (w := wd) (L := L.drop (n + 1)) (by first | exact HS2b.out _ _ (by have := HNN.out; omega) | exact HS2c.out _ _ (by have := HNN.out; omega) | exact mlrow_nilx (List.drop_eq_nil_of_le (by have := HNN.out; omega)) _ _ _ (by have := HNN.out; omega)) (by first | exact HP2b.out _ _ (by have := HNN.out; omega) | exact mlrow_nilx (List.drop_eq_nil_of_le (by have := HNN.out; omega)) _ _ _ (by have := HNN.out; omega)) (by simp; omega)).mono ?_; rintro e we ⟨rfl, hb⟩; have y0e := (hb.cell (block_lt_of_cell y0d)).trans y0d; have y1e := (hb.cell (block_lt_of_cell y1d)).trans y1d; have y2e := (hb.cell (block_lt_of_cell y2d)).trans y2d; have z0e := (hb.cell (block_lt_of_cell z0d)).trans z0d; have z1e := (hb.cell (block_lt_of_cell z1d)).trans z1d; have z2e := (hb.cell (block_lt_of_cell z2d)).trans z2d; have HBe := Lib.hid (HBd.out.trans (hb.mono hbd)); have hbe : b ≤ we.heap.size := (by have h := hb.size; omega); clear hb)
              | (go_at_call 15; refine (same_any (w := wb.drew) (L := L.take n) (HS1.out _) (HP1.out _) (by simp; omega)).mono ?_; rintro e wd ⟨rfl, hb⟩; have y0d := (hb.cell (block_lt_of_cell y0)).trans y0; have y1d := (hb.cell (block_lt_of_cell y1)).trans y1; have y2d := (hb.cell (block_lt_of_cell y2)).trans y2; have z0d := (hb.cell (block_lt_of_cell z0)).trans z0; have z1d := (hb.cell (block_lt_of_cell z1)).trans z1; have z2d := (hb.cell (block_lt_of_cell z2)).trans z2; have HBd := Lib.hid (HBb.out.drew.trans (hb.mono hbb)); have hbd : b ≤ wd.heap.size := (by have h := hb.size; omega); have HS2b := Lib.hid (fun c M hM => (HS2.out c M hM).drew.below hb); have HS2c := Lib.hid (fun c M (hM : M = L.length - (n + 1)) => (show MlRow wd (.slice (some ⟨g1, n * 3, none⟩) M c) (L.drop (n + 1)) from (by have h := HS2b.out c M hM; rw [Nat.zero_add] at h; exact h))); have HP2b := Lib.hid (fun c M hM => (HP2.out c M hM).drew.below hb); clear hb)
              | (go_at_call 16; refine (does7 we).mono ?_; rintro e wf ⟨rfl, hb⟩; have y0f := (hb.cell (block_lt_of_cell y0e)).trans y0e; have y1f := (hb.cell (block_lt_of_cell y1e)).trans y1e; have y2f := (hb.cell (block_lt_of_cell y2e)).trans y2e; have z0f := (hb.cell (block_lt_of_cell z0e)).trans z0e; have z1f := (hb.cell (block_lt_of_cell z1e)).trans z1e; have z2f := (hb.cell (block_lt_of_cell z2e)).trans z2e; have HBf := Lib.hid (HBe.out.trans (hb.mono hbe)); clear hb))
             go_wp2_with fail
             go_ret
             refine ⟨rfl, ?_⟩
             rw [HBE.out]
             exact HBf.out
        · have d5 : decide ((L.length : Int) < 64) = false := by simp; omega
          have hne : L ≠ [] := fun h => by rw [h] at hn; simp at hn
          obtain ⟨g0, o0, rfl⟩ := HW5.out.addr hne
          have HNz := HN5
          have HWz := HW5
          have HBz := HB5
          have hbz := hb5
          clear HN5 HW5 HB5 hb5
          have c10 := netTake_yes HNz.out n hn
          rw [HYM.out] at c10
          have C10 := Lib.hid c10
          clear c10
          go_wp2_with fail
          with_reducible refine (C10.out).mono ?_
          rintro e wa ⟨rfl, hN, hO⟩
          obtain ⟨N, hNN⟩ : ∃ N, L.length = N + 1 := ⟨L.length - 1, by omega⟩
          have hL2 : (L.take n ++ L.drop (n + 1)).length = N := by simp; omega
          have HNN := Lib.hid hNN
          clear hNN
          have HNa := Lib.hid hN
          have HWa := Lib.hid (HWz.out.only7 hO (fun a h => HWO.out a h))
          have HBa := Lib.hid (HBz.out.trans (hO.below (Nat.le_refl _) hbz))
          have hba : b ≤ wa.heap.size := by have := hO.size; omega
          clear hN hO C10
          go_wp2_with fail
          have c11 := fun o => netAll_row (HNa.out.more o)
          rw [hL2] at c11
          have C11 := Lib.hid c11
          clear c11
          with_reducible refine (C11.out _).mono ?_
          rintro e wb ⟨so, sc, rfl, hsc, hrow, -, hso, hb0⟩
          have hQ : BlkIn #[.int .i64 ym.src, .int .i64 ym.dst, .string (S ym.dat)] 31 wb wa.heap.size := BlkIn.below (heap_alloc_new wa _) hb0
          have hb := below_step ((Below.refl wa.heap.size wa).alloc (Nat.le_refl _) _) hb0
          have HWb := Lib.hid (HWa.out.below hb)
          have HBb := Lib.hid (HBa.out.trans (hb.mono hba))
          have hbb : b ≤ wb.drew.heap.size := by have h := hb.size; have : wb.drew.heap.size = wb.heap.size := rfl; omega
          have hgn : L[n] = ym := by rw [← HYM.out]; simp [List.getD, List.getElem?_eq_getElem hn]
          have hT1 : (L.take n ++ L.drop (n + 1)).take n = L.take n := by rw [List.take_append_of_le_length (by simp; omega), List.take_take, Nat.min_self]
          have hT2 : (L.take n ++ L.drop (n + 1)).drop n = L.drop (n + 1) := List.drop_left' (by simp; omega)
          obtain ⟨z0, z1, z2⟩ := HWb.out.cells7 n hn
          rw [HYM.out] at z0 z1 z2
          obtain ⟨y0, y1, y2⟩ := ml_cells hQ
          have HP1 := Lib.hid (fun c => row_pre HWb.out n (by omega) c)
          have HP2 := Lib.hid (fun c M (hM : M = L.length - (n + 1)) => row_suf HWb.out (n + 1) M hM c)
          have ew3 : IntKind.i64.wrap ((L.length : Int) - 1) = (N : Int) := (IntWalk.i64_in _ (by omega)).trans (by have := HNN.out; omega)
          have ew4 : IntKind.i64.wrap ((n : Int) + 1) = (n : Int) + 1 := IntWalk.i64_in _ (by omega)
          have b1 : (0 : Int) ≤ (n : Int) := by omega
          have b2 : (n : Int) ≤ (sc : Int) := by have := HNN.out; omega
          have b3 : (n : Int) ≤ (wc : Int) := by omega
          have b4 : (n : Int) ≤ (N : Int) := by have := HNN.out; omega
          have b5 : (0 : Int) ≤ (n : Int) + 1 := by omega
          have b9 : (n : Int) ≤ (n : Int) + 1 := by omega
          have b6 : (n : Int) + 1 ≤ (L.length : Int) := by omega
          have b7 : (L.length : Int) ≤ (wc : Int) := by omega
          have b8 : (N : Int) ≤ (sc : Int) := by omega
          generalize wa.heap.size = Y at *
          rcases hso with ⟨rfl, hsc0⟩ | ⟨g1, rfl⟩
          · clear hT1 hT2 hgn hrow hb hb0 hQ
            exfalso
            have := HNN.out
            omega
          · have HS1 := Lib.hid (fun c => (hT1 ▸ row_pre hrow n (by have := HNN.out; simp; omega) c : MlRow wb (.slice (some ⟨g1, 0, none⟩) n c) (L.take n)))
            have HS2 := Lib.hid (fun c M (hM : M = L.length - (n + 1)) => (hT2 ▸ row_suf hrow n M (by have := HNN.out; simp; omega) c : MlRow wb (.slice (some ⟨g1, 0 + n * 3, none⟩) M c) (L.drop (n + 1))))
            clear hT1 hT2 hgn hrow hb hb0 hQ
            go_wp2_with fail
            clear HN1 HB1 HNz HBz HNa HBa C11 hL2
            have hs4 : ¬ sc = n ∨ sc = n := by omega
            have hw4 : ¬ wc = n + 1 ∨ wc = n + 1 := by omega
            rcases hs4 with hsn | hsn <;> rcases hw4 with hwn | hwn
            all_goals
             go_region_held3 (fun W => W.cell? ⟨Y, 0, none⟩ = some (.int .i64 ym.src) ∧ W.cell? ⟨Y, 1, none⟩ = some (.int .i64 ym.dst) ∧ W.cell? ⟨Y, 2, none⟩ = some (.string (S ym.dat)) ∧ W.cell? ⟨g0, o0 + n * 3, none⟩ = some (.int .i64 ym.src) ∧ W.cell? ⟨g0, o0 + n * 3 + 1, none⟩ = some (.int .i64 ym.dst) ∧ W.cell? ⟨g0, o0 + n * 3 + 2, none⟩ = some (.string (S ym.dat))) (go_keep) (first
              | (go_at_call 15; have _t := HBd; clear _t; refine (same_any (w := wd) (L := L.drop (n + 1)) (by first | exact HS2b.out _ _ (by have := HNN.out; omega) | exact HS2c.out _ _ (by have := HNN.out; omega) | exact mlrow_nilx (List.drop_eq_nil_of_le (by have := HNN.out; omega)) _ _ _ (by have := HNN.out; omega)) (by first | exact HP2b.out _ _ (by have := HNN.out; omega) | exact mlrow_nilx (List.drop_eq_nil_of_le (by have := HNN.out; omega)) _ _ _ (by have := HNN.out; omega)) (by simp; omega)).mono ?_; rintro e we ⟨rfl, hb⟩; have y0e := (hb.cell (block_lt_of_cell y0d)).trans y0d; have y1e := (hb.cell (block_lt_of_cell y1d)).trans y1d; have y2e := (hb.cell (block_lt_of_cell y2d)).trans y2d; have z0e := (hb.cell (block_lt_of_cell z0d)).trans z0d; have z1e := (hb.cell (block_lt_of_cell z1d)).trans z1d; have z2e := (hb.cell (block_lt_of_cell z2d)).trans z2d; have HBe := Lib.hid (HBd.out.trans (hb.mono hbd)); have hbe : b ≤ we.heap.size := (by have h := hb.size; omega); clear hb)
              | (go_at_call 15; refine (same_any (w := wb.drew) (L := L.take n) (HS1.out _) (HP1.out _) (by simp; omega)).mono ?_; rintro e wd ⟨rfl, hb⟩; have y0d := (hb.cell (block_lt_of_cell y0)).trans y0; have y1d := (hb.cell (block_lt_of_cell y1)).trans y1; have y2d := (hb.cell (block_lt_of_cell y2)).trans y2; have z0d := (hb.cell (block_lt_of_cell z0)).trans z0; have z1d := (hb.cell (block_lt_of_cell z1)).trans z1; have z2d := (hb.cell (block_lt_of_cell z2)).trans z2; have HBd := Lib.hid (HBb.out.drew.trans (hb.mono hbb)); have hbd : b ≤ wd.heap.size := (by have h := hb.size; omega); have HS2b := Lib.hid (fun c M hM => (HS2.out c M hM).drew.below hb); have HS2c := Lib.hid (fun c M (hM : M = L.length - (n + 1)) => (show MlRow wd (.slice (some ⟨g1, n * 3, none⟩) M c) (L.drop (n + 1)) from (by have h := HS2b.out c M hM; rw [Nat.zero_add] at h; exact h))); have HP2b := Lib.hid (fun c M hM => (HP2.out c M hM).drew.below hb); clear hb)
              | (go_at_call 16; refine (does7 we).mono ?_; rintro e wf ⟨rfl, hb⟩; have y0f := (hb.cell (block_lt_of_cell y0e)).trans y0e; have y1f := (hb.cell (block_lt_of_cell y1e)).trans y1e; have y2f := (hb.cell (block_lt_of_cell y2e)).trans y2e; have z0f := (hb.cell (block_lt_of_cell z0e)).trans z0e; have z1f := (hb.cell (block_lt_of_cell z1e)).trans z1e; have z2f := (hb.cell (block_lt_of_cell z2e)).trans z2e; have HBf := Lib.hid (HBe.out.trans (hb.mono hbe)); clear hb))
             go_wp2_with fail
             go_ret
             refine ⟨rfl, ?_⟩
             rw [HBE.out]
             exact HBf.out
      · have C2 := Lib.hid (netLook_no HN2.out i hin)
        have key : decide (i ≥ 0) = false ∨ (decide (i ≥ 0) = true ∧ decide (i < (L.length : Int)) = false) := by
          by_cases h0 : 0 ≤ i
          · right; exact ⟨by simp [h0], by simp; omega⟩
          · left; simp; omega
        rcases key with d3 | ⟨d3, d4⟩
        all_goals
          go_wp2_with fail
          with_reducible refine (C2.out).mono ?_
          rintro e w2 ⟨rfl, hb⟩
          have HN3 := Lib.hid (HN2.out.below hb)
          have HB3 := Lib.hid (HB2.out.trans (hb.mono hb2))
          have HW3 := Lib.hid (HW2.out.below hb)
          have hb3 : b ≤ w2.heap.size := by have := hb.size; omega
          clear hb C2 HN2 HB2 HW2
          go_wp2_with fail
          with_reducible refine (netAll_row (HN3.out.more _)).mono ?_
          rintro e w3 ⟨vo, vc, rfl, hvc, hrow, -, -, hb⟩
          replace hb := below_step ((Below.refl w2.heap.size w2).alloc (Nat.le_refl _) _) hb
          have HN4 := Lib.hid (HN3.out.below hb)
          have HB4 := Lib.hid (HB3.out.trans (hb.mono hb3))
          have HW4 := Lib.hid (HW3.out.below hb)
          have hb4 : b ≤ w3.heap.size := by have := hb.size; omega
          have C4 := Lib.hid (same_any hrow HW4.out (by omega))
          clear hb hrow HN3 HB3 HW3
          go_wp2_with fail
          with_reducible refine (C4.out).mono ?_
          rintro e w4 ⟨rfl, hb⟩
          have HN5 := Lib.hid (HN4.out.below hb)
          have HB5 := Lib.hid (HB4.out.trans (hb.mono hb4))
          have HW5 := Lib.hid (HW4.out.below hb)
          have hb5 : b ≤ w4.heap.size := by have := hb.size; omega
          have C5 := Lib.hid (netDouble_no HN5.out i hin)
          clear hb C4 HN4 HB4 HW4
          go_wp2_with fail
          with_reducible refine (C5.out).mono ?_
          rintro e w5 ⟨rfl, hb⟩
          have HN6 := Lib.hid (HN5.out.below hb)
          have HB6 := Lib.hid (HB5.out.trans (hb.mono hb5))
          have HW6 := Lib.hid (HW5.out.below hb)
          have hb6 : b ≤ w5.heap.size := by have := hb.size; omega
          have C6 := Lib.hid (netLose_no HN6.out i hin)
          clear hb C5 HN5 HB5 HW5
          go_wp2_with fail
          with_reducible refine (C6.out).mono ?_
          rintro e w6 ⟨rfl, hb⟩
          have HN7 := Lib.hid (HN6.out.below hb)
          have HB7 := Lib.hid (HB6.out.trans (hb.mono hb6))
          have HW7 := Lib.hid (HW6.out.below hb)
          have hb7 : b ≤ w6.heap.size := by have := hb.size; omega
          have C7 := Lib.hid (netAll_row HN7.out)
          clear hb C6 HN6 HB6 HW6
          go_wp2_with fail
          with_reducible refine (C7.out).mono ?_
          rintro e w7 ⟨yo, yc, rfl, hyc, hrow, -, -, hb⟩
          have HB8 := Lib.hid (HB7.out.trans (hb.mono hb7))
          have HW8 := Lib.hid (HW7.out.below hb)
          have hb8 : b ≤ w7.heap.size := by have := hb.size; omega
          have C8 := Lib.hid (same_any hrow HW8.out (by omega))
          clear hb hrow C7 HN7 HB7 HW7
          go_wp2_with fail
          with_reducible refine (C8.out).mono ?_
          rintro e w8 ⟨rfl, hb⟩
          have HB9 := Lib.hid (HB8.out.trans (hb.mono hb8))
          have hb9 : b ≤ w8.heap.size := by have := hb.size; omega
          clear hb C8 HB8 HW8
          go_wp2_with fail
          with_reducible refine (does7 _).mono ?_
          rintro e w9 ⟨rfl, hb⟩
          have HB10 := Lib.hid (HB9.out.trans (hb.mono hb9))
          clear hb
          go_wp2_with fail
          go_ret
          refine ⟨rfl, ?_⟩
          rw [HBE.out]
          exact HB10.out

end Go.Proofs.Ytggflkjdpibioaa
