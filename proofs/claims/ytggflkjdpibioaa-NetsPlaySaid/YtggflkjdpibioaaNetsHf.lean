/- Layer 7: said, by a contract. -/
import Derived.Test.YtggflkjdpibioaaNetsHe
namespace Go.Proofs.Ytggflkjdpibioaa
set_option linter.unusedVariables false
open Go Go.RowKit

theorem RefIn.setR {w : World} {base r c : Nat} {L : List Ml} (h : RefIn w base r L) {q : Option Nat} (hq : QOf w r q) (hn : r ≠ c) (hqc : q ≠ some c) (i : Nat) (u : Value) : RefIn (w.setCell ⟨c, i, none⟩ u) base r L ∧ QOf (w.setCell ⟨c, i, none⟩ u) r q := by
  obtain ⟨v, T, h1, h2, h3, h4⟩ := h
  obtain ⟨v', hv', hqv⟩ := hq
  have e : v = v' := by
    have := h1.cell 0
    rw [hv'] at this
    injection this with this
    simpa using this.symm
  subst e
  refine ⟨⟨v, T, h1.other hn i u, ⟨h2.1, ?_⟩, h3, by simpa [World.setCell] using h4⟩, v, (h1.other hn i u).cell 0, hqv⟩
  rcases h2.2 with hc | ⟨g, cap, cur, rfl, hBg, hgg, rest⟩
  · exact .inl hc
  · have hgc : g ≠ c := fun e => hqc (by rw [← hqv, ← e]; rfl)
    exact .inr ⟨g, cap, cur, rfl, hBg, by rw [Below.heap_setCell _ _ _ _ hgc]; exact hgg, rest⟩
theorem Away.setOther {base r c : Nat} {w x : World} (h : Away base r w x) (hc : base ≤ c) (i : Nat) (v : Value) : Away base r w (x.setCell ⟨c, i, none⟩ v) :=
  ⟨h.os, h.tape, h.output, by simpa [World.setCell] using h.size, fun k hk hn => (Below.heap_setCell _ _ _ _ (show k ≠ c by omega)).trans (h.block k hk hn)⟩
theorem refIn_q {w : World} {base r : Nat} {L : List Ml} (h : RefIn w base r L) : ∃ q, QOf w r q ∧ ∀ k, q = some k → k < w.heap.size := by
  obtain ⟨v, T, h1, h2, h3, h4⟩ := h
  exact ⟨v.ownBlock, ⟨v, h1.cell 0, rfl⟩, fun k hk => (h2.lt k hk).2⟩
theorem qOf_below {w w' : World} {r : Nat} {q : Option Nat} (h : QOf w r q) (hb : Below w.heap.size w w') : QOf w' r q := by
  obtain ⟨v, h1, h2⟩ := h
  exact ⟨v, (Below.cell hb (p := ⟨r, 0, none⟩) (block_lt_of_cell h1)).trans h1, h2⟩
theorem keepQ_set {w : World} {r c : Nat} (hn : r ≠ c) {q : Option Nat} (hq : QOf w r q) (i : Nat) (u : Value) : QOf (w.setCell ⟨c, i, none⟩ u) r q := by
  obtain ⟨v, h1, h2⟩ := hq
  refine ⟨v, ?_, h2⟩
  rw [World.cell?_of_block (w := w) (show (w.setCell ⟨c, i, none⟩ u).heap[r]? = w.heap[r]? from Below.heap_setCell _ _ _ _ hn)]
  exact h1
/-- What is kept over a call behind two allocs, and ahead of three stores to the second one. -/
theorem keepQ_said {w W2 w3 : World} {base r : Nat} {L : List Ml} {a b c : Value} (h12 : Below w.heap.size w W2) (hK : KeepQ r W2 w3) (hN : RefIn w3 base r L) (hrb : w.heap.size + 1 ≠ r) (hrl : r < w.heap.size) : KeepQ r w (((w3.setCell ⟨w.heap.size + 1, 0, none⟩ a).setCell ⟨w.heap.size + 1, 1, none⟩ b).setCell ⟨w.heap.size + 1, 2, none⟩ c) := fun q hq => by
  obtain ⟨k1, q', k2, k3⟩ := hK q (qOf_below hq h12)
  refine ⟨fun k hk hkr hkq => ?_, q', keepQ_set (Ne.symm hrb) (keepQ_set (Ne.symm hrb) (keepQ_set (Ne.symm hrb) k2 _ _) _ _) _ _, ?_⟩
  · have hne : k ≠ w.heap.size + 1 := by omega
    rw [Below.heap_setCell _ _ _ _ hne, Below.heap_setCell _ _ _ _ hne, Below.heap_setCell _ _ _ _ hne, k1 k (Nat.lt_of_lt_of_le hk h12.size) hkr hkq]
    exact h12.block k hk
  · rcases k3 with e | e | ⟨k, hk, e⟩
    · exact .inl e
    · exact .inr (.inl e)
    · exact .inr (.inr ⟨k, Nat.le_trans h12.size hk, e⟩)
/-- What comes of a call, for the cells of an answer that lies in block R. -/
theorem keepQ_use {w w' : World} {r R : Nat} {C : Array Value} {T : TypeId} (hK : KeepQ r w w') (hQ : ∃ q, QOf w r q ∧ q ≠ some R) (hR : BlkIn C T w R) (hn : R ≠ r) : BlkIn C T w' R ∧ ∃ q, QOf w' r q ∧ q ≠ some R := by
  obtain ⟨q, h1, h2⟩ := hQ
  obtain ⟨h3, q', h4, h5⟩ := hK q h1
  have hl := hR.lt
  refine ⟨?_, q', h4, ?_⟩
  · unfold BlkIn at *
    rw [h3 R hl hn h2]; exact hR
  · rcases h5 with e | e | ⟨k, hk, e⟩
    · rw [e]; exact h2
    · rw [e]; intro h; cases h
    · rw [e]; intro h; injection h with h; omega

set_option maxRecDepth 100000 in
set_option maxHeartbeats 1000000 in
theorem said_any {w : World} {base r : Nat} {L : List Ml} (h : RefIn w base r L) (x : Ac) (hx : x.ok) (hl : L.length ≤ 64) :
    Calls Try.prog 12 #[.pointer (some ⟨r, 0, none⟩), acV x] w fun e w' => e = .returned (.tuple #[mlV (dM L x), .bool (dB L x)]) ∧ RefIn w' base r (dL L x) ∧ Away base r w w' ∧ KeepQ r w w' := by
  have hk1 := hx.k1
  have hk2 := hx.k2
  obtain ⟨k, m, i⟩ := x
  simp only at hk1 hk2
  unfold acV
  have hb1 := (Below.refl w.heap.size w).alloc (Nat.le_refl _) (.cells #[.int .u8 k, .int .i64 m.src, .int .i64 m.dst, .string (S m.dat), .int .i64 i] 35)
  have hb2 := (Below.refl (w.alloc (.cells #[.int .u8 k, .int .i64 m.src, .int .i64 m.dst, .string (S m.dat), .int .i64 i] 35)).heap.size (w.alloc (.cells #[.int .u8 k, .int .i64 m.src, .int .i64 m.dst, .string (S m.dat), .int .i64 i] 35))).alloc (Nat.le_refl _) (.cells #[.int .i64 0, .int .i64 0, .string ⟨#[]⟩] 31)
  have hb12 := below_step hb1 hb2
  have hs : r < base ∧ base ≤ w.heap.size := by obtain ⟨_, _, _, _, h⟩ := h; exact h
  have HN := Lib.hid (h.below hb12)
  have HA := Lib.hid (Away.ofBelow (r := r) hb12 hs.2)
  have HR : Hid (BlkIn #[.int .i64 ml0.src, .int .i64 ml0.dst, .string (S ml0.dat)] 31 ((w.alloc (.cells #[.int .u8 k, .int .i64 m.src, .int .i64 m.dst, .string (S m.dat), .int .i64 i] 35)).alloc (.cells #[.int .i64 0, .int .i64 0, .string ⟨#[]⟩] 31)) (w.heap.size + 1)) := Lib.hid (by have h := heap_alloc_new (w.alloc (.cells #[.int .u8 k, .int .i64 m.src, .int .i64 m.dst, .string (S m.dat), .int .i64 i] 35)) (.cells #[.int .i64 0, .int .i64 0, .string ⟨#[]⟩] 31); rw [sz_alloc] at h; exact h)
  have HQ : Hid (∃ q, QOf ((w.alloc (.cells #[.int .u8 k, .int .i64 m.src, .int .i64 m.dst, .string (S m.dat), .int .i64 i] 35)).alloc (.cells #[.int .i64 0, .int .i64 0, .string ⟨#[]⟩] 31)) r q ∧ q ≠ some (w.heap.size + 1)) := Lib.hid (by
    obtain ⟨q, h1, h2⟩ := refIn_q h
    exact ⟨q, qOf_below h1 hb12, fun e => by have := h2 _ e; omega⟩)
  have hrb : w.heap.size + 1 ≠ r := by omega
  have hbR : base ≤ w.heap.size + 1 := by omega
  have hbs : base ≤ ((w.alloc (.cells #[.int .u8 k, .int .i64 m.src, .int .i64 m.dst, .string (S m.dat), .int .i64 i] 35)).alloc (.cells #[.int .i64 0, .int .i64 0, .string ⟨#[]⟩] 31)).heap.size := Nat.le_trans hs.2 hb12.size
  have HW12 := Lib.hid hb12
  have hrl : r < w.heap.size := by omega
  clear h hx hb1 hb2 hb12
  by_cases h4 : k % 9 = 4
  · have d0 : True := trivial
    simp only [dM, dB, dL, h4, if_true, true_or]
    have C1 := Lib.hid (refLook_any HN.out i)
    go_enter Try.func12, Try.ntmps12
    go_wp2_with fail
    with_reducible refine (C1.out).mono ?_
    rintro e w3 ⟨rfl, hb⟩
    have hN := HN.out.below hb
    have hA : Away base r _ w3 := Away.ofBelow hb hbs
    have hK : KeepQ r _ w3 := keepQ_below hb
    have HN3 := Lib.hid hN
    have HA3 := Lib.hid (HA.out.trans hA)
    have hu := keepQ_use hK HQ.out HR.out hrb
    have HK3 := Lib.hid hK
    have HR3 := Lib.hid hu.1
    have HQ3 := Lib.hid hu.2
    clear hN hA hK hu hb
    have y0 := HR3.out.cell 0
    have y1 := HR3.out.cell 1
    have y2 := HR3.out.cell 2
    have yf := fun j => HR3.out.free j
    clear C1 HN HA HR HQ
    go_wp2_with fail
    obtain ⟨q, hq, hqn⟩ := HQ3.out
    refine bodyPost_ret (ret_ml2 rfl _ _ (w.heap.size + 1) (lookM L i) rfl (blk_row3 (lookM L i) HR3.out)) rfl ⟨rfl, ?_, ((HA3.out.setOther hbR 0 _).setOther hbR 1 _).setOther hbR 2 _, ?_⟩
    · have s1 := HN3.out.setR hq (Ne.symm hrb) hqn 0 (.int .i64 (lookM L i).src)
      have s2 := s1.1.setR s1.2 (Ne.symm hrb) hqn 1 (.int .i64 (lookM L i).dst)
      exact (s2.1.setR s2.2 (Ne.symm hrb) hqn 2 (.string (S (lookM L i).dat))).1
    · exact keepQ_said HW12.out HK3.out HN3.out hrb hrl
  by_cases h5 : k % 9 = 5
  · have d0 : True := trivial
    simp only [dM, dB, dL, h5, if_true, true_or, or_true, show ((5 : Int) = 4) = False from by simp, if_false]
    have C1 := Lib.hid (refNetTake_any HN.out i hl)
    go_enter Try.func12, Try.ntmps12
    go_wp2_with fail
    with_reducible refine (C1.out).mono ?_
    rintro e w3 ⟨rfl, hN, hA, hK⟩
    have HN3 := Lib.hid hN
    have HA3 := Lib.hid (HA.out.trans hA)
    have hu := keepQ_use hK HQ.out HR.out hrb
    have HK3 := Lib.hid hK
    have HR3 := Lib.hid hu.1
    have HQ3 := Lib.hid hu.2
    clear hN hA hK hu
    have y0 := HR3.out.cell 0
    have y1 := HR3.out.cell 1
    have y2 := HR3.out.cell 2
    have yf := fun j => HR3.out.free j
    clear C1 HN HA HR HQ
    go_wp2_with fail
    obtain ⟨q, hq, hqn⟩ := HQ3.out
    refine bodyPost_ret (ret_ml2 rfl _ _ (w.heap.size + 1) (lookM L i) rfl (blk_row3 (lookM L i) HR3.out)) rfl ⟨rfl, ?_, ((HA3.out.setOther hbR 0 _).setOther hbR 1 _).setOther hbR 2 _, ?_⟩
    · have s1 := HN3.out.setR hq (Ne.symm hrb) hqn 0 (.int .i64 (lookM L i).src)
      have s2 := s1.1.setR s1.2 (Ne.symm hrb) hqn 1 (.int .i64 (lookM L i).dst)
      exact (s2.1.setR s2.2 (Ne.symm hrb) hqn 2 (.string (S (lookM L i).dat))).1
    · exact keepQ_said HW12.out HK3.out HN3.out hrb hrl
  by_cases h6 : k % 9 = 6
  · have d0 : True := trivial
    simp only [dM, dB, dL, h6, if_true, true_or, or_true, show ((6 : Int) = 4) = False from by simp, if_false]
    have C1 := Lib.hid (refNetTake_any HN.out i hl)
    go_enter Try.func12, Try.ntmps12
    go_wp2_with fail
    with_reducible refine (C1.out).mono ?_
    rintro e w3 ⟨rfl, hN, hA, hK⟩
    have HN3 := Lib.hid hN
    have HA3 := Lib.hid (HA.out.trans hA)
    have hu := keepQ_use hK HQ.out HR.out hrb
    have HK3 := Lib.hid hK
    have HR3 := Lib.hid hu.1
    have HQ3 := Lib.hid hu.2
    clear hN hA hK hu
    have y0 := HR3.out.cell 0
    have y1 := HR3.out.cell 1
    have y2 := HR3.out.cell 2
    have yf := fun j => HR3.out.free j
    clear C1 HN HA HR HQ
    go_wp2_with fail
    obtain ⟨q, hq, hqn⟩ := HQ3.out
    refine bodyPost_ret (ret_ml2 rfl _ _ (w.heap.size + 1) (lookM L i) rfl (blk_row3 (lookM L i) HR3.out)) rfl ⟨rfl, ?_, ((HA3.out.setOther hbR 0 _).setOther hbR 1 _).setOther hbR 2 _, ?_⟩
    · have s1 := HN3.out.setR hq (Ne.symm hrb) hqn 0 (.int .i64 (lookM L i).src)
      have s2 := s1.1.setR s1.2 (Ne.symm hrb) hqn 1 (.int .i64 (lookM L i).dst)
      exact (s2.1.setR s2.2 (Ne.symm hrb) hqn 2 (.string (S (lookM L i).dat))).1
    · exact keepQ_said HW12.out HK3.out HN3.out hrb hrl
  by_cases h7 : k % 9 = 7
  · have d0 : True := trivial
    simp only [dM, dB, dL, h7, if_true, show ((7 : Int) = 4) = False from by simp, show ((7 : Int) = 5) = False from by simp, show ((7 : Int) = 6) = False from by simp, show ((7 : Int) = 8) = False from by simp, or_self, if_false]
    have hB : ∃ B, decide ((0 ≤ i ∧ i < (L.length : Int)) ∧ L.length < 64) = B := ⟨_, rfl⟩
    obtain ⟨B, hB⟩ := hB
    rw [hB]
    have C1 := Lib.hid (hB ▸ refDouble_any HN.out i hl)
    go_enter Try.func12, Try.ntmps12
    go_wp2_with fail
    with_reducible refine (C1.out).mono ?_
    rintro e w3 ⟨rfl, hN, hA, hK⟩
    have HN3 := Lib.hid hN
    have HA3 := Lib.hid (HA.out.trans hA)
    have hu := keepQ_use hK HQ.out HR.out hrb
    have HK3 := Lib.hid hK
    have HR3 := Lib.hid hu.1
    have HQ3 := Lib.hid hu.2
    clear hN hA hK hu
    have y0 := HR3.out.cell 0
    have y1 := HR3.out.cell 1
    have y2 := HR3.out.cell 2
    have yf := fun j => HR3.out.free j
    clear C1 hB HN HA HR HQ
    go_wp2_with fail
    obtain ⟨q, hq, hqn⟩ := HQ3.out
    refine bodyPost_ret (ret_ml2 rfl _ _ (w.heap.size + 1) (ml0) rfl (blk_row3 (ml0) HR3.out)) rfl ⟨rfl, ?_, ((HA3.out.setOther hbR 0 _).setOther hbR 1 _).setOther hbR 2 _, ?_⟩
    · have s1 := HN3.out.setR hq (Ne.symm hrb) hqn 0 (.int .i64 (ml0).src)
      have s2 := s1.1.setR s1.2 (Ne.symm hrb) hqn 1 (.int .i64 (ml0).dst)
      exact (s2.1.setR s2.2 (Ne.symm hrb) hqn 2 (.string (S (ml0).dat))).1
    · exact keepQ_said HW12.out HK3.out HN3.out hrb hrl
  by_cases h8 : k % 9 = 8
  · have d0 : True := trivial
    simp only [dM, dB, dL, h8, if_true, or_true, show ((8 : Int) = 4) = False from by simp, show ((8 : Int) = 5) = False from by simp, show ((8 : Int) = 6) = False from by simp, show ((8 : Int) = 7) = False from by simp, or_self, if_false]
    have C1 := Lib.hid (refLose_any HN.out i hl)
    go_enter Try.func12, Try.ntmps12
    go_wp2_with fail
    with_reducible refine (C1.out).mono ?_
    rintro e w3 ⟨rfl, hN, hA, hK⟩
    have HN3 := Lib.hid hN
    have HA3 := Lib.hid (HA.out.trans hA)
    have hu := keepQ_use hK HQ.out HR.out hrb
    have HK3 := Lib.hid hK
    have HR3 := Lib.hid hu.1
    have HQ3 := Lib.hid hu.2
    clear hN hA hK hu
    have y0 := HR3.out.cell 0
    have y1 := HR3.out.cell 1
    have y2 := HR3.out.cell 2
    have yf := fun j => HR3.out.free j
    clear C1 HN HA HR HQ
    go_wp2_with fail
    obtain ⟨q, hq, hqn⟩ := HQ3.out
    refine bodyPost_ret (ret_ml2 rfl _ _ (w.heap.size + 1) (ml0) rfl (blk_row3 (ml0) HR3.out)) rfl ⟨rfl, ?_, ((HA3.out.setOther hbR 0 _).setOther hbR 1 _).setOther hbR 2 _, ?_⟩
    · have s1 := HN3.out.setR hq (Ne.symm hrb) hqn 0 (.int .i64 (ml0).src)
      have s2 := s1.1.setR s1.2 (Ne.symm hrb) hqn 1 (.int .i64 (ml0).dst)
      exact (s2.1.setR s2.2 (Ne.symm hrb) hqn 2 (.string (S (ml0).dat))).1
    · exact keepQ_said HW12.out HK3.out HN3.out hrb hrl
  have q4 : (k % 9 == 4) = false := by simp [h4]
  have q5 : (k % 9 == 5) = false := by simp [h5]
  have q6 : (k % 9 == 6) = false := by simp [h6]
  have q7 : (k % 9 == 7) = false := by simp [h7]
  have q8 : (k % 9 == 8) = false := by simp [h8]
  simp only [dM, dB, dL, h4, h5, h6, h7, h8, or_self, if_false]
  clear h4 h5 h6 h7 h8
  have hB : ∃ B, decide (L.length < 64) = B := ⟨_, rfl⟩
  obtain ⟨B, hB⟩ := hB
  rw [hB]
  have C1 := Lib.hid (hB ▸ refSend_any HN.out m hl)
  go_enter Try.func12, Try.ntmps12
  go_wp2_with fail
  with_reducible refine (C1.out).mono ?_
  rintro e w3 ⟨rfl, hN, hA, hK⟩
  have HN3 := Lib.hid hN
  have HA3 := Lib.hid (HA.out.trans hA)
  have hu := keepQ_use hK HQ.out HR.out hrb
  have HK3 := Lib.hid hK
  have HR3 := Lib.hid hu.1
  have HQ3 := Lib.hid hu.2
  clear hN hA hK hu
  have y0 := HR3.out.cell 0
  have y1 := HR3.out.cell 1
  have y2 := HR3.out.cell 2
  have yf := fun j => HR3.out.free j
  clear C1 hB HN HA HR HQ
  go_wp2_with fail
  obtain ⟨q, hq, hqn⟩ := HQ3.out
  refine bodyPost_ret (ret_ml2 rfl _ _ (w.heap.size + 1) (ml0) rfl (blk_row3 (ml0) HR3.out)) rfl ⟨rfl, ?_, ((HA3.out.setOther hbR 0 _).setOther hbR 1 _).setOther hbR 2 _, ?_⟩
  · have s1 := HN3.out.setR hq (Ne.symm hrb) hqn 0 (.int .i64 (ml0).src)
    have s2 := s1.1.setR s1.2 (Ne.symm hrb) hqn 1 (.int .i64 (ml0).dst)
    exact (s2.1.setR s2.2 (Ne.symm hrb) hqn 2 (.string (S (ml0).dat))).1
  · exact keepQ_said HW12.out HK3.out HN3.out hrb hrl

end Go.Proofs.Ytggflkjdpibioaa
