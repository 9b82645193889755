/- Layer 7: the laws' walks: NetsFull. -/
import Derived.Test.YtggflkjdpibioaaNetsE
import Derived.Test.YtggflkjdpibioaaNetsO
namespace Go.Proofs.Ytggflkjdpibioaa
set_option linter.unusedVariables false
open Go Go.RowKit

theorem NetIn.other {w : World} {b : Nat} {L : List Ml} (h : NetIn w b L) {c : Nat} (hne : b ≠ c) (i : Nat) (v : Value) : NetIn (w.setCell ⟨c, i, none⟩ v) b L := by
  obtain ⟨nx, ml, us, fs, h1, h2⟩ := h; exact ⟨nx, ml, us, fs, h1.other hne i v, h2⟩
def fullL (m : Ml) (n : Nat) : List Ml := (List.range n).map fun (k : Nat) => ⟨m.src, (k : Int), m.dat⟩
theorem fullL_succ (m : Ml) (n : Nat) : fullL m (n + 1) = fullL m n ++ [⟨m.src, n, m.dat⟩] := by simp [fullL, List.range_succ]
theorem fullL_len (m : Ml) (n : Nat) : (fullL m n).length = n := by simp [fullL]

theorem fullL_get (m : Ml) (n j : Nat) (h : j < n) : (fullL m n).getD j ml0 = ⟨m.src, j, m.dat⟩ := by simp [fullL, List.getD, h]
section
variable {w : World} {b : Nat} {L : List Ml}
theorem full_send (h : NetIn w b L) (hl : L.length = 64) (m : Ml) :
    Calls Try.prog 21 #[.pointer (some ⟨b, 0, none⟩), mlV m] w fun e w' => e = .returned (.bool false) ∧ NetIn w' b L ∧ Only b w w' := netSend_full h (by omega) m
theorem full_double (h : NetIn w b L) (hl : L.length = 64) (i : Int) :
    Calls Try.prog 18 #[.pointer (some ⟨b, 0, none⟩), .int .i64 i] w fun e w' => e = .returned (.bool false) ∧ NetIn w' b L ∧ Only b w w' := by
  have := netDouble_any h i
  rw [doubleL, if_neg (by omega), decide_eq_false (by omega)] at this
  exact this
theorem full_len (h : NetIn w b L) (hl : L.length = 64) :
    Calls Try.prog 13 #[.pointer (some ⟨b, 0, none⟩)] w fun e w' => e = .returned (.int .i64 64) ∧ w = w' := by
  have := netLen_any h
  rw [hl] at this
  exact this
theorem less_double (h : NetIn w b L) (hl : L.length = 63) :
    Calls Try.prog 18 #[.pointer (some ⟨b, 0, none⟩), .int .i64 0] w fun e w' => e = .returned (.bool true) ∧ (∃ L', L'.length = 64 ∧ NetIn w' b L') ∧ Only b w w' := by
  have := netDouble_any h 0
  rw [decide_eq_true (by omega)] at this
  refine this.mono fun e w' ⟨he, hN, hO⟩ => ⟨he, ⟨_, ?_, hN⟩, hO⟩
  rw [doubleL, if_pos (by omega)]
  simp
  omega
end
def fullE (m : Ml) (p : Nat) : List Ml := eraseL (fullL m 64) p
theorem fullE_eq (m : Ml) (p : Nat) (h : p < 64) : fullE m p = (fullL m 64).take p ++ (fullL m 64).drop (p + 1) := by
  rw [fullE, eraseL, if_pos ⟨by omega, by rw [fullL_len]; omega⟩]; rfl
theorem fullE_len (m : Ml) (p : Nat) (h : p < 64) : (fullE m p).length = 63 := by rw [fullE_eq m p h]; simp [fullL_len]; omega
theorem fullE_get (m : Ml) (p : Nat) (h : p < 63) : (fullE m p).getD p ml0 = ⟨m.src, (p : Int) + 1, m.dat⟩ := by
  rw [fullE_eq m p (by omega)]
  have h1 : ((fullL m 64).take p).length = p := by simp [fullL_len]; omega
  rw [List.getD, List.getElem?_append_right (by omega), h1, List.getElem?_drop]
  have := fullL_get m 64 (p + 1) (by omega)
  rw [List.getD] at this
  simpa using this

set_option maxHeartbeats 4000000 in
set_option maxRecDepth 100000 in
theorem netsFull_calls (u : Value) (hu : UMl u) (a : Int) (ha : (Lit.int .u8 a).wf = true) (w : World) :
    Calls Try.prog 7 #[u, .int .u8 a] w fun e w' => e = .returned (.bool true) ∧ Below w.heap.size w w' := by
  obtain ⟨m, rfl⟩ := hu
  have ha' := u8_wf ha
  clear ha
  obtain ⟨p, hp, hp64⟩ : ∃ p : Nat, a % 64 = (p : Int) ∧ p < 64 := ⟨(a % 64).toNat, by omega, by omega⟩
  by_cases hg : 1000 < m.dat.length
  · have d1 : decide ((m.dat.length : Int) > 1000) = true := by simp; omega
    go_enter Try.func7, Try.ntmps7
    go_wp2_with fail
    go_ret
    exact ⟨rfl, (Below.refl _ _).alloc (Nat.le_refl _) _⟩
  have d1 : decide ((m.dat.length : Int) > 1000) = false := by simp; omega
  go_enter Try.func7, Try.ntmps7
  go_wp2_with fail
  have hX : BlkIn #[.int .i64 m.src, .int .i64 m.dst, .string (S m.dat)] 31 (w.alloc (.cells #[.int .i64 m.src, .int .i64 m.dst, .string (S m.dat)] 31)) w.heap.size := heap_alloc_new w _
  have hb0 := (Below.refl w.heap.size w).alloc (Nat.le_refl _) (.cells #[.int .i64 m.src, .int .i64 m.dst, .string (S m.dat)] 31)
  generalize (w.alloc (.cells #[.int .i64 m.src, .int .i64 m.dst, .string (S m.dat)] 31)) = W1 at *
  have hxl := hX.lt
  have hXw : w.heap.size ≤ w.heap.size := Nat.le_refl _
  generalize hXe : w.heap.size = X at *
  have HXE := Lib.hid hXe
  with_reducible refine (netNew_any W1).mono ?_
  rintro e w0 ⟨rfl, hN0, hb1⟩
  have hne : W1.heap.size ≠ X := by omega
  have hXb : X ≤ W1.heap.size := by omega
  have HX := Lib.hid (hX.below hb1)
  have HB := Lib.hid (hb0.trans (hb1.mono (by omega)))
  have HN := Lib.hid hN0
  clear hX hb0 hb1 hN0 hxl hXw hXe
  generalize W1.heap.size = b at *
  go_wp2_with fail
  go_loopw [6] (fun i wr => ∃ (k : Nat) (dv : Int), k ≤ 64 ∧ i = .int .i64 k ∧ NetIn wr b (fullL m k) ∧ BlkIn #[.int .i64 m.src, .int .i64 dv, .string (S m.dat)] 31 wr X ∧ Below X w wr) (fun i _ => 64 - (intOf i).toNat)
  case atStart => exact ⟨0, m.dst, by omega, rfl, HN.out, HX.out, HB.out⟩
  case round =>
    rename_i wr
    obtain ⟨k, dv, hk, rfl, hN, hX, hB⟩ := hrel
    by_cases hlt : k < 64
    · have d2 : decide ((k : Int) < 64) = true := by simp; omega
      have x0 : wr.cell? ⟨X, 0, none⟩ = some (.int .i64 m.src) := hX.cell 0
      have x1 : wr.cell? ⟨X, 1, none⟩ = some (.int .i64 dv) := hX.cell 1
      have x2 : wr.cell? ⟨X, 2, none⟩ = some (.string (S m.dat)) := hX.cell 2
      have hf := fun j => hX.free j
      have C1 := Lib.hid (netSend_any (hN.other hne 1 (.int .i64 k)) ⟨m.src, k, m.dat⟩)
      have HX2 := Lib.hid (hX.set 1 (.int .i64 k))
      have HB2 := Lib.hid (hB.setCell (p := ⟨X, 1, none⟩) (Nat.le_refl _) (.int .i64 k))
      clear hN hX hB HN HX HB
      go_wp2_with fail
      with_reducible refine (C1.out).mono ?_
      rintro e w2 ⟨rfl, hN, hO⟩
      rw [show sendL (fullL m k) ⟨m.src, k, m.dat⟩ = fullL m (k + 1) from by rw [sendL, if_pos (by rw [fullL_len]; exact hlt), fullL_succ]] at hN
      have d3 : decide ((fullL m k).length < 64) = true := by rw [fullL_len]; simp [hlt]
      have HN := Lib.hid hN
      have HX3 := Lib.hid (HX2.out.only hO (Ne.symm hne))
      have HB3 := Lib.hid (HB2.out.trans (hO.below hXb (by have := HX2.out.lt; omega)))
      clear hN hO
      go_wp2_with fail
      go_roundw
      case rel => exact ⟨k + 1, k, by omega, by go_num, HN.out, HX3.out, HB3.out⟩
      case measure => simp [intOf]; omega
    · obtain rfl : k = 64 := by omega
      have d2 : decide (((64 : Nat) : Int) < 64) = false := by simp
      have x0 : wr.cell? ⟨X, 0, none⟩ = some (.int .i64 m.src) := hX.cell 0
      have x1 : wr.cell? ⟨X, 1, none⟩ = some (.int .i64 dv) := hX.cell 1
      have x2 : wr.cell? ⟨X, 2, none⟩ = some (.string (S m.dat)) := hX.cell 2
      have HN := Lib.hid hN
      have HX := Lib.hid hX
      have HB := Lib.hid hB
      clear hN hX hB
      go_wp2_with fail
      have C1 := Lib.hid (full_send HN.out (fullL_len _ _) ⟨m.src, dv, m.dat⟩)
      with_reducible refine (C1.out).mono ?_
      rintro e w1 ⟨rfl, hN, hO1⟩
      have C2 := Lib.hid (full_double hN (fullL_len _ _) p)
      have HX1 := Lib.hid (HX.out.only hO1 (Ne.symm hne))
      have HB1 := Lib.hid (HB.out.trans (hO1.below hXb (by have := HX.out.lt; omega)))
      clear hN hO1 x0 x1 x2
      go_wp2_with fail
      with_reducible refine (C2.out).mono ?_
      rintro e w2 ⟨rfl, hN, hO⟩
      have HX2 := Lib.hid (HX1.out.only hO (Ne.symm hne))
      have HB2 := Lib.hid (HB1.out.trans (hO.below hXb (by have := HX1.out.lt; omega)))
      have C3 := Lib.hid (full_len hN (fullL_len _ _))
      have c4 := netTake_any hN p
      rw [show lookM (fullL m 64) p = ⟨m.src, p, m.dat⟩ from by rw [lookM, if_pos ⟨by omega, by rw [fullL_len]; omega⟩]; exact fullL_get m 64 p hp64, show lookB (fullL m 64) p = true from decide_eq_true ⟨by omega, by rw [fullL_len]; omega⟩] at c4
      change Calls _ _ _ _ (fun e w' => _ ∧ NetIn w' b (fullE m p) ∧ _) at c4
      have C4 := Lib.hid c4
      clear hN hO c4
      go_wp2_with fail
      with_reducible refine (C3.out).mono ?_
      rintro e w2' ⟨rfl, rfl⟩
      go_wp2_with fail
      with_reducible refine (C4.out).mono ?_
      rintro e w3 ⟨rfl, hN, hO⟩
      have HX3 := Lib.hid (HX2.out.only hO (Ne.symm hne))
      have HB3 := Lib.hid (HB2.out.trans (hO.below hXb (by have := HX2.out.lt; omega)))
      have HN3 := Lib.hid hN
      clear hN hO
      go_wp2_with fail
      have hQ : BlkIn #[.int .i64 m.src, .int .i64 p, .string (S m.dat)] 31 (w3.alloc (.cells #[.int .i64 m.src, .int .i64 p, .string (S m.dat)] 31)) w3.heap.size := heap_alloc_new w3 _
      have HX4 := Lib.hid (HX3.out.more (.cells #[.int .i64 m.src, .int .i64 p, .string (S m.dat)] 31))
      have hN4 := HN3.out.more (.cells #[.int .i64 m.src, .int .i64 p, .string (S m.dat)] 31)
      have HB4 := Lib.hid (HB3.out.alloc (by have := HX3.out.lt; omega) (.cells #[.int .i64 m.src, .int .i64 p, .string (S m.dat)] 31))
      have hqx : X ≤ w3.heap.size := by have := HX3.out.lt; omega
      generalize (w3.alloc (.cells #[.int .i64 m.src, .int .i64 p, .string (S m.dat)] 31)) = W4 at *
      generalize w3.heap.size = Y at *
      have HQ4 := Lib.hid hQ
      have HN4 := Lib.hid hN4
      have g0 : (0 : Int) ≤ (p : Int) := by omega
      have g1 : (p : Int) < 64 := by omega
      have key : (decide ((p : Int) < 63) = true ∧ Calls Try.prog 17 #[.pointer (some ⟨b, 0, none⟩), .int .i64 p] W4 fun e w' => e = .returned (.tuple #[mlV ⟨m.src, (p : Int) + 1, m.dat⟩, .bool true]) ∧ Below W4.heap.size W4 w') ∨
          (decide ((p : Int) < 63) = false ∧ Calls Try.prog 17 #[.pointer (some ⟨b, 0, none⟩), .int .i64 p] W4 fun e w' => e = .returned (.tuple #[mlV ml0, .bool false]) ∧ Below W4.heap.size W4 w') := by
        have h := netLook_any hN4 p
        rw [lookM, lookB, fullE_len m p hp64] at h
        by_cases q : p < 63
        · left
          rw [if_pos ⟨by omega, by omega⟩, decide_eq_true ⟨by omega, by omega⟩, Int.toNat_natCast, fullE_get m p q] at h
          exact ⟨by simp; omega, h⟩
        · right
          rw [if_neg (by omega), decide_eq_false (by omega)] at h
          exact ⟨by simp; omega, h⟩
      clear hQ hN4 HN3 HX3 HB3 HX2 HB2 HX1 HB1 HX HB C1 C2 C3 C4
      rcases key with ⟨d5, c5⟩ | ⟨d5, c5⟩
      all_goals
        have C5 := Lib.hid c5
        clear c5
        with_reducible refine (C5.out).mono ?_
        rintro e w5 ⟨rfl, hb⟩
        have HN5 := Lib.hid (HN4.out.below hb)
        have HX5 := Lib.hid (HX4.out.below hb)
        have HQ5 := Lib.hid (HQ4.out.below hb)
        have HB5 := Lib.hid (HB4.out.trans (hb.mono (by have := HX4.out.lt; omega)))
        clear hb
        have x0 : ∀ o, (w5.alloc o).cell? ⟨X, 0, none⟩ = some (.int .i64 m.src) := fun o => (HX5.out.more o).cell 0
        have x1 : ∀ o, (w5.alloc o).cell? ⟨X, 1, none⟩ = some (.int .i64 dv) := fun o => (HX5.out.more o).cell 1
        have x2 : ∀ o, (w5.alloc o).cell? ⟨X, 2, none⟩ = some (.string (S m.dat)) := fun o => (HX5.out.more o).cell 2
        have y1 : ∀ o, (w5.alloc o).cell? ⟨Y, 1, none⟩ = some (.int .i64 p) := fun o => (HQ5.out.more o).cell 1
        go_wp2_with fail
        with_reducible refine (less_double (HN5.out.more _) (fullE_len m p hp64)).mono ?_
        rintro e w6 ⟨rfl, ⟨L2, hl2, hN⟩, hO⟩
        have HX6 := Lib.hid ((HX5.out.more _).only hO (Ne.symm hne))
        have HB6 := Lib.hid ((HB5.out.alloc (by have := HX5.out.lt; omega) _).trans (hO.below hXb (by have := HX5.out.lt; simp; omega)))
        have C7 := Lib.hid (full_send hN hl2 ⟨m.src, dv, m.dat⟩)
        clear x0 x1 x2 y1 hN hO
        have x0 : w6.cell? ⟨X, 0, none⟩ = some (.int .i64 m.src) := HX6.out.cell 0
        have x1 : w6.cell? ⟨X, 1, none⟩ = some (.int .i64 dv) := HX6.out.cell 1
        have x2 : w6.cell? ⟨X, 2, none⟩ = some (.string (S m.dat)) := HX6.out.cell 2
        go_wp2_with fail
        with_reducible refine (C7.out).mono ?_
        rintro e w7 ⟨rfl, hN, hO⟩
        have HX7 := Lib.hid (HX6.out.only hO (Ne.symm hne))
        have HB7 := Lib.hid (HB6.out.trans (hO.below hXb (by have := HX6.out.lt; omega)))
        have C8 := Lib.hid (full_len hN hl2)
        clear hN hO
        go_wp2_with fail
        with_reducible refine (C8.out).mono ?_
        rintro e w8 ⟨rfl, rfl⟩
        go_wp2_with fail
        with_reducible refine (does7 _).mono ?_
        rintro e w9 ⟨rfl, hb⟩
        have HB9 := Lib.hid (HB7.out.trans (hb.mono (by have := HX7.out.lt; omega)))
        clear hb
        go_wp2_with fail
        go_ret
        refine ⟨rfl, ?_⟩
        rw [HXE.out]
        exact HB9.out

end Go.Proofs.Ytggflkjdpibioaa
