/- Layer 7: the laws' walks: NetsOrder. -/
import Derived.Test.YtggflkjdpibioaaNetsL1
import Derived.Deep.RegionHeld3
namespace Go.Proofs.Ytggflkjdpibioaa
set_option linter.unusedVariables false
open Go Go.RowKit

set_option maxHeartbeats 4000000 in
set_option maxRecDepth 100000 in
theorem netsOrder_calls (u : Value) (w : World) (hu : ∃ L, MlRow w u L ∧ L.length ≤ maxLen) :
    Calls Try.prog 8 #[u] w fun e w' => e = .returned (.bool true) ∧ Below w.heap.size w w' := by
  obtain ⟨L, ⟨ao, cap, rfl, hrow⟩, hlm⟩ := hu
  unfold maxLen at hlm
  by_cases hg : 64 < L.length
  · have d1 : decide ((L.length : Int) > 64) = true := by simp; omega
    go_enter Try.func8, Try.ntmps8
    go_wp2_with fail
    with_reducible refine (does7 _).mono ?_
    rintro e w9 ⟨rfl, hb⟩
    go_wp2_with fail
    go_ret
    exact ⟨rfl, hb⟩
  have d1 : decide ((L.length : Int) > 64) = false := by simp; omega
  have HR := Lib.hid hrow
  clear hrow
  go_enter Try.func8, Try.ntmps8
  go_wp2_with fail
  with_reducible refine (netNew_any w).mono ?_
  rintro e w0 ⟨rfl, hN0, hb0⟩
  have HN := Lib.hid hN0
  have HB := Lib.hid hb0
  have hbw : w.heap.size ≤ w.heap.size := Nat.le_refl _
  clear hN0 hb0
  generalize hbe : w.heap.size = b at *
  have HBE := Lib.hid hbe
  clear hbe
  go_wp2_with fail
  go_loopw [4] (fun i wr => ∃ k : Nat, k ≤ L.length ∧ i = .int .i64 k ∧ NetIn wr b (L.take k) ∧ Below b w wr) (fun i _ => L.length - (intOf i).toNat)
  case atStart => exact ⟨0, by omega, rfl, HN.out, HB.out⟩
  case round =>
    rename_i wr
    obtain ⟨k, hk, rfl, hN, hB⟩ := hrel
    have HB2 := Lib.hid hB
    by_cases hlt : k < L.length
    · have d2 : decide ((k : Int) < (L.length : Int)) = true := by simp; omega
      have hne : L ≠ [] := fun h => by rw [h] at hlt; simp at hlt
      obtain ⟨g, off, rfl, hc⟩ := HR.out hne
      obtain ⟨x0, x1, x2⟩ := hc k hlt
      replace x0 := (hB.cell (by rw [← HBE.out]; exact block_lt_of_cell x0)).trans x0
      replace x1 := (hB.cell (by rw [← HBE.out]; exact block_lt_of_cell x1)).trans x1
      replace x2 := (hB.cell (by rw [← HBE.out]; exact block_lt_of_cell x2)).trans x2
      have hk2 : L.take (k + 1) = L.take k ++ [L.getD k ml0] := by rw [List.take_add_one]; simp [List.getD, List.getElem?_eq_getElem hlt]
      have C1 := Lib.hid (netSend_room hN (by simp; omega) (L.getD k ml0))
      have HK := Lib.hid (hk2.symm)
      clear hc hN hB HN HB hk2
      generalize L.getD k ml0 = m at *
      go_wp2_with fail
      with_reducible refine (C1.out).mono ?_
      rintro e w2 ⟨rfl, hN, hO⟩
      rw [HK.out] at hN
      have HN := Lib.hid hN
      have HB3 := Lib.hid (HB2.out.trans (hO.below (Nat.le_refl _) (by have := HB2.out.size; have := HBE.out; omega)))
      clear hN hO
      go_wp2_with fail
      go_roundw
      case rel => exact ⟨k + 1, by omega, by go_num, HN.out, HB3.out⟩
      case measure => simp [intOf]; omega
    · obtain rfl : k = L.length := by omega
      have d2 : decide ((L.length : Int) < (L.length : Int)) = false := by simp
      rw [List.take_length] at hN
      have HN3 := Lib.hid hN
      clear hN hB
      go_wp2_with fail
      go_loopw [5] (fun i wr => ∃ k : Nat, k ≤ L.length ∧ i = .int .i64 k ∧ NetIn wr b (L.drop k) ∧ Below b w wr) (fun i _ => L.length - (intOf i).toNat)
      case atStart => exact ⟨0, by omega, rfl, HN3.out, HB2.out⟩
      case round =>
        rename_i wr
        obtain ⟨k, hk, rfl, hN, hB⟩ := hrel
        have HB4 := Lib.hid hB
        clear HB2 HN3 HN HB
        by_cases hlt : k < L.length
        · have d2 : decide ((k : Int) < (L.length : Int)) = true := by simp; omega
          have hne : L ≠ [] := fun h => by rw [h] at hlt; simp at hlt
          obtain ⟨g, off, rfl, hc⟩ := HR.out hne
          obtain ⟨x0, x1, x2⟩ := hc k hlt
          have hgb : g < b := by rw [← HBE.out]; exact block_lt_of_cell x0
          replace x0 := (hB.cell hgb).trans x0
          replace x1 := (hB.cell hgb).trans x1
          replace x2 := (hB.cell hgb).trans x2
          have c1 := netTake_yes hN 0 (by simp; omega)
          rw [show (L.drop k).getD 0 ml0 = L.getD k ml0 from by simp [List.getD], show (L.drop k).take 0 ++ (L.drop k).drop (0 + 1) = L.drop (k + 1) from by simp, show ((0 : Nat) : Int) = 0 from rfl] at c1
          have C1 := Lib.hid c1
          clear hc hN hB c1
          generalize L.getD k ml0 = m at *
          go_wp2_with fail
          with_reducible refine (C1.out).mono ?_
          rintro e w3 ⟨rfl, hN, hO⟩
          have HN5 := Lib.hid hN
          have HB5 := Lib.hid (HB4.out.trans (hO.below (Nat.le_refl _) (by have := HB4.out.size; have := HBE.out; omega)))
          replace x0 := hO.cell (by simp; omega) x0
          replace x1 := hO.cell (by simp; omega) x1
          replace x2 := hO.cell (by simp; omega) x2
          clear hN hO
          go_wp2_with fail
          have hQ : BlkIn #[.int .i64 m.src, .int .i64 m.dst, .string (S m.dat)] 31 (w3.alloc (.cells #[.int .i64 m.src, .int .i64 m.dst, .string (S m.dat)] 31)) w3.heap.size := heap_alloc_new w3 _
          have hN6 := HN5.out.more (.cells #[.int .i64 m.src, .int .i64 m.dst, .string (S m.dat)] 31)
          have hb6 := (Below.refl w3.heap.size w3).alloc (Nat.le_refl _) (.cells #[.int .i64 m.src, .int .i64 m.dst, .string (S m.dat)] 31)
          generalize (w3.alloc (.cells #[.int .i64 m.src, .int .i64 m.dst, .string (S m.dat)] 31)) = W6 at *
          replace x0 := (hb6.cell (block_lt_of_cell x0)).trans x0
          replace x1 := (hb6.cell (block_lt_of_cell x1)).trans x1
          replace x2 := (hb6.cell (block_lt_of_cell x2)).trans x2
          have HB6 := Lib.hid (HB5.out.trans (hb6.mono (by have := HB5.out.size; have := HBE.out; omega)))
          have c2 := fun (W : World) (h : NetIn W b (L.drop (k + 1))) => netLen_any h
          rw [show (((L.drop (k + 1)).length : Nat) : Int) = (L.length : Int) - 1 - k from by simp; omega] at c2
          have C2 := Lib.hid c2
          have e1 : IntKind.i64.wrap ((L.length : Int) - 1) = (L.length : Int) - 1 := IntWalk.i64_in _ (by omega)
          have e2 : IntKind.i64.wrap ((L.length : Int) - 1 - k) = (L.length : Int) - 1 - k := IntWalk.i64_in _ (by omega)
          have HN6 := Lib.hid hN6
          clear hN6 hb6 c2 HN5 C1 HB5
          generalize w3.heap.size = Y at *
          obtain ⟨y0, y1, y2⟩ := ml_cells hQ
          clear hQ
          go_region_held3 (fun W => W.cell? ⟨g, off + k * 3, none⟩ = some (.int .i64 m.src) ∧ W.cell? ⟨g, off + k * 3 + 1, none⟩ = some (.int .i64 m.dst) ∧ W.cell? ⟨g, off + k * 3 + 2, none⟩ = some (.string (S m.dat)) ∧ W.cell? ⟨Y, 0, none⟩ = some (.int .i64 m.src) ∧ W.cell? ⟨Y, 1, none⟩ = some (.int .i64 m.dst) ∧ W.cell? ⟨Y, 2, none⟩ = some (.string (S m.dat))) (go_keep) (first
            | (go_at_call 13; refine (C2.out _ (by exact HN6.out.drew)).mono ?_; rintro e w' ⟨rfl, rfl⟩))
          go_wp2_with fail
          go_roundw
          case rel => exact ⟨k + 1, by omega, by go_num, HN6.out.drew, HB6.out.drew⟩
          case measure => simp [intOf]; omega
        · obtain rfl : k = L.length := by omega
          have d2 : decide ((L.length : Int) < (L.length : Int)) = false := by simp
          rw [List.drop_length] at hN
          have C1 := Lib.hid (netTake_no hN 0 (by simp))
          clear hN hB
          go_wp2_with fail
          with_reducible refine (C1.out).mono ?_
          rintro e w3 ⟨rfl, hb⟩
          have HB5 := Lib.hid (HB4.out.trans (hb.mono (by have := HB4.out.size; have := HBE.out; omega)))
          clear hb
          go_wp2_with fail
          with_reducible refine (does7 _).mono ?_
          rintro e w9 ⟨rfl, hb⟩
          have HB9 := Lib.hid (HB5.out.trans (((Below.refl w3.heap.size w3).alloc (Nat.le_refl _) _).trans (hb.mono (by simp)) |>.mono (by have := HB5.out.size; have := HBE.out; omega)))
          clear hb
          go_wp2_with fail
          go_ret
          refine ⟨rfl, ?_⟩
          rw [HBE.out]
          exact HB9.out

end Go.Proofs.Ytggflkjdpibioaa
