/- Layer 7: the document's net: is, Look, Send, by contracts. -/
import Derived.Test.YtggflkjdpibioaaNetsY
import Derived.Test.YtggflkjdpibioaaNetsP
namespace Go.Proofs.Ytggflkjdpibioaa
set_option linter.unusedVariables false
open Go Go.RowKit

/-- Of what stood below base nothing has turned but block r. -/
structure Away (base r : Nat) (w w' : World) : Prop where
  os : w'.os = w.os
  tape : w'.tape = w.tape
  output : w'.output = w.output
  size : w.heap.size ≤ w'.heap.size
  block : ∀ k, k < base → k ≠ r → w'.heap[k]? = w.heap[k]?
theorem Away.trans {base r : Nat} {w x y : World} (h : Away base r w x) (k : Away base r x y) : Away base r w y :=
  ⟨k.os.trans h.os, k.tape.trans h.tape, k.output.trans h.output, Nat.le_trans h.size k.size, fun i hi hn => (k.block i hi hn).trans (h.block i hi hn)⟩
theorem Away.drew {base r : Nat} {w x : World} (h : Away base r w x) : Away base r w x.drew := ⟨h.os, h.tape, h.output, h.size, h.block⟩
theorem Away.ofBelow {base r : Nat} {w x : World} (h : Below w.heap.size w x) (hb : base ≤ w.heap.size) : Away base r w x := ⟨h.os, h.tape, h.output, h.size, fun k hk _ => h.block k (by omega)⟩
theorem Away.setCell {base r : Nat} {w x : World} (h : Away base r w x) (i : Nat) (v : Value) : Away base r w (x.setCell ⟨r, i, none⟩ v) :=
  ⟨h.os, h.tape, h.output, by simpa [World.setCell] using h.size, fun k hk hn => (Below.heap_setCell _ _ _ _ hn).trans (h.block k hk hn)⟩
theorem Away.grown {base r : Nat} {w x y : World} (h : Away base r w x) {row : Option Nat} (hg : x.grownBy y row) (hb : base ≤ x.heap.size) (hr : ∀ q, row = some q → base ≤ q) : Away base r w y :=
  h.trans ⟨hg.os, hg.tape, hg.output, hg.size, fun k hk _ => hg.block k (by omega) (fun e => by have := hr k e.symm; omega)⟩
theorem NetIn.away {w w' : World} {b base r : Nat} {L : List Ml} (h : NetIn w b L) (ha : Away base r w w') (hb : b < base) (hn : b ≠ r) : NetIn w' b L := by
  obtain ⟨nx, ml, us, fs, ⟨C, T, h1, h2⟩, h3⟩ := h
  refine ⟨nx, ml, us, fs, ⟨C, T, ?_, h2⟩, h3⟩
  unfold BlkIn at *
  rw [ha.block b hb hn]; exact h1
/-- The document's net, in block r, its row behind base. -/
def RefIn (w : World) (base r : Nat) (L : List Ml) : Prop := ∃ v T, BlkIn #[v] T w r ∧ w.ownsRow base 31 3 v L.length (mls L) ∧ r < base ∧ base ≤ w.heap.size
theorem RefIn.below {w w' : World} {base r : Nat} {L : List Ml} (h : RefIn w base r L) (hb : Below w.heap.size w w') : RefIn w' base r L := by
  obtain ⟨v, T, h1, h2, h3, h4⟩ := h
  exact ⟨v, T, h1.below hb, ownsRow_below h2 hb, h3, by have := hb.size; omega⟩
theorem RefIn.only {w w' : World} {base r b : Nat} {L : List Ml} (h : RefIn w base r L) (hb : Only b w w') (hn : r ≠ b) (hbb : b < base) : RefIn w' base r L := by
  obtain ⟨v, T, h1, h2, h3, h4⟩ := h
  refine ⟨v, T, h1.only hb hn, ⟨h2.1, ?_⟩, h3, by have := hb.size; omega⟩
  rcases h2.2 with hc | ⟨g, cap, cur, rfl, hBg, hgg, rest⟩
  · exact .inl hc
  · exact .inr ⟨g, cap, cur, rfl, hBg, by rw [hb.block g (Array.getElem?_eq_some_iff.1 hgg).1 (by omega)]; exact hgg, rest⟩

theorem ref_is {w : World} {base r : Nat} {L : List Ml} (h : RefIn w base r L) (i : Int) :
    Calls Try.prog 31 #[.pointer (some ⟨r, 0, none⟩), .int .i64 i] w fun e w' => e = .returned (.bool (decide (0 ≤ i ∧ i < L.length))) ∧ w = w' := by
  obtain ⟨v, T, hb, ho, hr, hs⟩ := h
  obtain ⟨ao, cap, rfl, -⟩ := own_parts ho
  have c0 : w.cell? ⟨r, 0, none⟩ = some (.slice ao L.length cap) := hb.cell 0
  clear hb ho
  by_cases h0 : 0 ≤ i
  · by_cases h1 : i < L.length
    · have hd : decide (0 ≤ i ∧ i < (L.length : Int)) = true := by simp [h0, h1]
      rw [hd]
      have d1 : decide (i ≥ 0) = true := by simp [h0]
      have d2 : decide (i < (L.length : Int)) = true := by simp [h1]
      go_enter Try.func31, Try.ntmps31
      go_wp2_with fail
      go_ret
      exact ⟨rfl, rfl⟩
    · have hd : decide (0 ≤ i ∧ i < (L.length : Int)) = false := by simp [h0, h1]
      rw [hd]
      have d1 : decide (i ≥ 0) = true := by simp [h0]
      have d2 : decide (i < (L.length : Int)) = false := by simp; omega
      go_enter Try.func31, Try.ntmps31
      go_wp2_with fail
      go_ret
      exact ⟨rfl, rfl⟩
  · have hd : decide (0 ≤ i ∧ i < (L.length : Int)) = false := by simp [h0]
    rw [hd]
    have d1 : decide (i ≥ 0) = false := by simp; omega
    go_enter Try.func31, Try.ntmps31
    go_wp2_with fail
    go_ret
    exact ⟨rfl, rfl⟩

theorem refLook_any {w : World} {base r : Nat} {L : List Ml} (h : RefIn w base r L) (i : Int) :
    Calls Try.prog 22 #[.pointer (some ⟨r, 0, none⟩), .int .i64 i] w fun e w' => e = .returned (.tuple #[mlV (lookM L i), .bool (lookB L i)]) ∧ Below w.heap.size w w' := by
  have C1 := Lib.hid (ref_is (h.below ((Below.refl _ _).alloc (Nat.le_refl _) (.cells #[.int .i64 0, .int .i64 0, .string ⟨#[]⟩] 31))) i)
  have hrl : r < w.heap.size := by obtain ⟨_, _, h, _⟩ := h; exact h.lt
  have hX1 : BlkIn #[.int .i64 ml0.src, .int .i64 ml0.dst, .string (S ml0.dat)] 31 (w.alloc (.cells #[.int .i64 0, .int .i64 0, .string ⟨#[]⟩] 31)) w.heap.size := heap_alloc_new w _
  have hb1 := (Below.refl w.heap.size w).alloc (Nat.le_refl _) (.cells #[.int .i64 0, .int .i64 0, .string ⟨#[]⟩] 31)
  have h' := h.below hb1
  obtain ⟨v, T, hb, ho, hr, hs⟩ := h'
  obtain ⟨ao, cap, rfl, hcap, hrow, -⟩ := own_parts ho
  have HROW := Lib.hid hrow
  have HX1 := Lib.hid hX1
  have HB1 := Lib.hid hb1
  have hbc := hb.cell 0
  have HC0 := Lib.hid hbc
  clear h hb ho hX1 hb1 hrow hbc
  unfold lookM lookB
  by_cases hi : 0 ≤ i ∧ i < (L.length : Int)
  · rw [if_pos hi, decide_eq_true hi]
    rw [decide_eq_true hi] at C1
    obtain ⟨n, rfl⟩ := Int.eq_ofNat_of_zero_le hi.1
    have hn : n < L.length := by omega
    rw [Int.toNat_natCast]
    obtain ⟨g, o, rfl⟩ := HROW.out.addr (fun h => by rw [h] at hn; simp at hn)
    obtain ⟨z0, z1, z2⟩ := HROW.out.cells7 n hn
    generalize L.getD n ml0 = m at *
    have b1 : (0 : Int) ≤ (n : Int) := by omega
    have b2 : (n : Int) < (L.length : Int) := by omega
    go_enter Try.func22, Try.ntmps22
    go_wp2_with fail
    with_reducible refine (C1.out).mono ?_
    rintro e w2 ⟨rfl, rfl⟩
    generalize (w.alloc (.cells #[.int .i64 0, .int .i64 0, .string ⟨#[]⟩] 31)) = W1 at *
    have c0 : W1.cell? ⟨r, 0, none⟩ = some (.slice (some ⟨g, o, none⟩) L.length cap) := HC0.out
    have hf : ∀ j, W1.frozen? ⟨w.heap.size, j, none⟩ = false := fun j => HX1.out.free j
    have x0 : W1.cell? ⟨w.heap.size, 0, none⟩ = some (.int .i64 0) := HX1.out.cell 0
    have x1 : W1.cell? ⟨w.heap.size, 1, none⟩ = some (.int .i64 0) := HX1.out.cell 1
    have x2 : W1.cell? ⟨w.heap.size, 2, none⟩ = some (.string ⟨#[]⟩) := HX1.out.cell 2
    clear C1
    go_wp2_with fail
    refine bodyPost_ret (ret_ml2 rfl _ _ w.heap.size m rfl (blk_row3 m HX1.out)) rfl ⟨rfl, ((HB1.out.setCell (Nat.le_refl _) _).setCell (Nat.le_refl _) _).setCell (Nat.le_refl _) _⟩
  · rw [if_neg hi, decide_eq_false hi]
    rw [decide_eq_false hi] at C1
    go_enter Try.func22, Try.ntmps22
    go_wp2_with fail
    with_reducible refine (C1.out).mono ?_
    rintro e w2 ⟨rfl, rfl⟩
    generalize (w.alloc (.cells #[.int .i64 0, .int .i64 0, .string ⟨#[]⟩] 31)) = W1 at *
    have hf : ∀ j, W1.frozen? ⟨w.heap.size, j, none⟩ = false := fun j => HX1.out.free j
    have x0 : W1.cell? ⟨w.heap.size, 0, none⟩ = some (.int .i64 0) := HX1.out.cell 0
    have x1 : W1.cell? ⟨w.heap.size, 1, none⟩ = some (.int .i64 0) := HX1.out.cell 1
    have x2 : W1.cell? ⟨w.heap.size, 2, none⟩ = some (.string ⟨#[]⟩) := HX1.out.cell 2
    clear C1
    go_wp2_with fail
    refine bodyPost_ret (ret_ml2 rfl _ _ w.heap.size ml0 rfl (blk_row3 ml0 HX1.out)) rfl ⟨rfl, ((HB1.out.setCell (Nat.le_refl _) _).setCell (Nat.le_refl _) _).setCell (Nat.le_refl _) _⟩

end Go.Proofs.Ytggflkjdpibioaa
