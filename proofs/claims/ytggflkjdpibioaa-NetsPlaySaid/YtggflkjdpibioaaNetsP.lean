/- Layer 7: done, by a contract. -/
import Derived.Test.YtggflkjdpibioaaNetsL1
namespace Go.Proofs.Ytggflkjdpibioaa
set_option linter.unusedVariables false
open Go Go.RowKit

abbrev acV (x : Ac) : Value := .agg #[.int .u8 x.kind, .int .i64 x.m.src, .int .i64 x.m.dst, .string (S x.m.dat), .int .i64 x.i]
def dM (L : List Ml) (x : Ac) : Ml := if x.kind % 9 = 4 ∨ x.kind % 9 = 5 ∨ x.kind % 9 = 6 then lookM L x.i else ml0
def dB (L : List Ml) (x : Ac) : Bool := if x.kind % 9 = 4 ∨ x.kind % 9 = 5 ∨ x.kind % 9 = 6 ∨ x.kind % 9 = 8 then lookB L x.i else if x.kind % 9 = 7 then decide ((0 ≤ x.i ∧ x.i < L.length) ∧ L.length < 64) else decide (L.length < 64)
def dL (L : List Ml) (x : Ac) : List Ml := if x.kind % 9 = 4 then L else if x.kind % 9 = 5 ∨ x.kind % 9 = 6 ∨ x.kind % 9 = 8 then eraseL L x.i else if x.kind % 9 = 7 then doubleL L x.i else sendL L x.m

set_option maxRecDepth 100000 in
set_option maxHeartbeats 1000000 in
theorem done_any {w : World} {b : Nat} {L : List Ml} (h : NetIn w b L) (x : Ac) (hx : x.ok) :
    Calls Try.prog 11 #[.pointer (some ⟨b, 0, none⟩), acV x] w fun e w' => e = .returned (.tuple #[mlV (dM L x), .bool (dB L x)]) ∧ NetIn w' b (dL L x) ∧ Only b w w' := by
  have hk1 := hx.k1
  have hk2 := hx.k2
  obtain ⟨k, m, i⟩ := x
  simp only at hk1 hk2
  unfold acV
  have HN := Lib.hid ((h.more (.cells #[.int .u8 k, .int .i64 m.src, .int .i64 m.dst, .string (S m.dat), .int .i64 i] 35)).more (.cells #[.int .i64 0, .int .i64 0, .string ⟨#[]⟩] 31))
  have HO := Lib.hid (((Only.refl b w).alloc (.cells #[.int .u8 k, .int .i64 m.src, .int .i64 m.dst, .string (S m.dat), .int .i64 i] 35)).alloc (.cells #[.int .i64 0, .int .i64 0, .string ⟨#[]⟩] 31))
  have HR : Hid (BlkIn #[.int .i64 ml0.src, .int .i64 ml0.dst, .string (S ml0.dat)] 31 ((w.alloc (.cells #[.int .u8 k, .int .i64 m.src, .int .i64 m.dst, .string (S m.dat), .int .i64 i] 35)).alloc (.cells #[.int .i64 0, .int .i64 0, .string ⟨#[]⟩] 31)) (w.heap.size + 1)) := Lib.hid (by have h := heap_alloc_new (w.alloc (.cells #[.int .u8 k, .int .i64 m.src, .int .i64 m.dst, .string (S m.dat), .int .i64 i] 35)) (.cells #[.int .i64 0, .int .i64 0, .string ⟨#[]⟩] 31); rw [sz_alloc] at h; exact h)
  have hlt := h.lt
  have hrb : w.heap.size + 1 ≠ b := by omega
  have hne : b ≠ w.heap.size + 1 := by omega
  clear h hx
  by_cases h4 : k % 9 = 4
  · have d0 : True := trivial
    simp only [dM, dB, dL, h4, if_true, true_or]
    have C1 := Lib.hid (netLook_any HN.out i)
    go_enter Try.func11, Try.ntmps11
    go_wp2_with fail
    with_reducible refine (C1.out).mono ?_
    rintro e w3 ⟨rfl, hb⟩
    have HN3 := Lib.hid (HN.out.below hb)
    have HR3 := Lib.hid (HR.out.below hb)
    have HO3 := Lib.hid (HO.out.trans (Only.ofBelow hb))
    clear hb
    have y0 := HR3.out.cell 0
    have y1 := HR3.out.cell 1
    have y2 := HR3.out.cell 2
    have yf := fun j => HR3.out.free j
    clear C1 HN HO HR
    go_wp2_with fail
    refine bodyPost_ret (ret_ml2 rfl _ _ (w.heap.size + 1) (lookM L i) rfl (blk_row3 (lookM L i) HR3.out)) rfl ⟨rfl, ((HN3.out.other (Ne.symm hrb) 0 _).other (Ne.symm hrb) 1 _).other (Ne.symm hrb) 2 _, ((HO3.out.setCell (.inr (Nat.le_succ _)) _).setCell (.inr (Nat.le_succ _)) _).setCell (.inr (Nat.le_succ _)) _⟩
  by_cases h5 : k % 9 = 5
  · have d0 : True := trivial
    simp only [dM, dB, dL, h5, if_true, true_or, or_true, show ((5 : Int) = 4) = False from by simp, if_false]
    have C1 := Lib.hid (netTake_any HN.out i)
    go_enter Try.func11, Try.ntmps11
    go_wp2_with fail
    with_reducible refine (C1.out).mono ?_
    rintro e w3 ⟨rfl, hN, hO⟩
    have HN3 := Lib.hid hN
    have HR3 := Lib.hid (HR.out.only hO (Ne.symm hne))
    have HO3 := Lib.hid (HO.out.trans hO)
    clear hN hO
    have y0 := HR3.out.cell 0
    have y1 := HR3.out.cell 1
    have y2 := HR3.out.cell 2
    have yf := fun j => HR3.out.free j
    clear C1 HN HO HR
    go_wp2_with fail
    refine bodyPost_ret (ret_ml2 rfl _ _ (w.heap.size + 1) (lookM L i) rfl (blk_row3 (lookM L i) HR3.out)) rfl ⟨rfl, ((HN3.out.other (Ne.symm hrb) 0 _).other (Ne.symm hrb) 1 _).other (Ne.symm hrb) 2 _, ((HO3.out.setCell (.inr (Nat.le_succ _)) _).setCell (.inr (Nat.le_succ _)) _).setCell (.inr (Nat.le_succ _)) _⟩
  by_cases h6 : k % 9 = 6
  · have d0 : True := trivial
    simp only [dM, dB, dL, h6, if_true, true_or, or_true, show ((6 : Int) = 4) = False from by simp, if_false]
    have C1 := Lib.hid (netTake_any HN.out i)
    go_enter Try.func11, Try.ntmps11
    go_wp2_with fail
    with_reducible refine (C1.out).mono ?_
    rintro e w3 ⟨rfl, hN, hO⟩
    have HN3 := Lib.hid hN
    have HR3 := Lib.hid (HR.out.only hO (Ne.symm hne))
    have HO3 := Lib.hid (HO.out.trans hO)
    clear hN hO
    have y0 := HR3.out.cell 0
    have y1 := HR3.out.cell 1
    have y2 := HR3.out.cell 2
    have yf := fun j => HR3.out.free j
    clear C1 HN HO HR
    go_wp2_with fail
    refine bodyPost_ret (ret_ml2 rfl _ _ (w.heap.size + 1) (lookM L i) rfl (blk_row3 (lookM L i) HR3.out)) rfl ⟨rfl, ((HN3.out.other (Ne.symm hrb) 0 _).other (Ne.symm hrb) 1 _).other (Ne.symm hrb) 2 _, ((HO3.out.setCell (.inr (Nat.le_succ _)) _).setCell (.inr (Nat.le_succ _)) _).setCell (.inr (Nat.le_succ _)) _⟩
  by_cases h7 : k % 9 = 7
  · have d0 : True := trivial
    simp only [dM, dB, dL, h7, if_true, show ((7 : Int) = 4) = False from by simp, show ((7 : Int) = 5) = False from by simp, show ((7 : Int) = 6) = False from by simp, show ((7 : Int) = 8) = False from by simp, or_self, if_false]
    have hB : ∃ B, decide ((0 ≤ i ∧ i < (L.length : Int)) ∧ L.length < 64) = B := ⟨_, rfl⟩
    obtain ⟨B, hB⟩ := hB
    rw [hB]
    have C1 := Lib.hid (hB ▸ netDouble_any HN.out i)
    go_enter Try.func11, Try.ntmps11
    go_wp2_with fail
    with_reducible refine (C1.out).mono ?_
    rintro e w3 ⟨rfl, hN, hO⟩
    have HN3 := Lib.hid hN
    have HR3 := Lib.hid (HR.out.only hO (Ne.symm hne))
    have HO3 := Lib.hid (HO.out.trans hO)
    clear hN hO
    have y0 := HR3.out.cell 0
    have y1 := HR3.out.cell 1
    have y2 := HR3.out.cell 2
    have yf := fun j => HR3.out.free j
    clear C1 hB HN HO HR
    go_wp2_with fail
    refine bodyPost_ret (ret_ml2 rfl _ _ (w.heap.size + 1) (ml0) rfl (blk_row3 (ml0) HR3.out)) rfl ⟨rfl, ((HN3.out.other (Ne.symm hrb) 0 _).other (Ne.symm hrb) 1 _).other (Ne.symm hrb) 2 _, ((HO3.out.setCell (.inr (Nat.le_succ _)) _).setCell (.inr (Nat.le_succ _)) _).setCell (.inr (Nat.le_succ _)) _⟩
  by_cases h8 : k % 9 = 8
  · have d0 : True := trivial
    simp only [dM, dB, dL, h8, if_true, or_true, show ((8 : Int) = 4) = False from by simp, show ((8 : Int) = 5) = False from by simp, show ((8 : Int) = 6) = False from by simp, show ((8 : Int) = 7) = False from by simp, or_self, if_false]
    have C1 := Lib.hid (netLose_any HN.out i)
    go_enter Try.func11, Try.ntmps11
    go_wp2_with fail
    with_reducible refine (C1.out).mono ?_
    rintro e w3 ⟨rfl, hN, hO⟩
    have HN3 := Lib.hid hN
    have HR3 := Lib.hid (HR.out.only hO (Ne.symm hne))
    have HO3 := Lib.hid (HO.out.trans hO)
    clear hN hO
    have y0 := HR3.out.cell 0
    have y1 := HR3.out.cell 1
    have y2 := HR3.out.cell 2
    have yf := fun j => HR3.out.free j
    clear C1 HN HO HR
    go_wp2_with fail
    refine bodyPost_ret (ret_ml2 rfl _ _ (w.heap.size + 1) (ml0) rfl (blk_row3 (ml0) HR3.out)) rfl ⟨rfl, ((HN3.out.other (Ne.symm hrb) 0 _).other (Ne.symm hrb) 1 _).other (Ne.symm hrb) 2 _, ((HO3.out.setCell (.inr (Nat.le_succ _)) _).setCell (.inr (Nat.le_succ _)) _).setCell (.inr (Nat.le_succ _)) _⟩
  have q4 : (k % 9 == 4) = false := by simp [h4]
  have q5 : (k % 9 == 5) = false := by simp [h5]
  have q6 : (k % 9 == 6) = false := by simp [h6]
  have q7 : (k % 9 == 7) = false := by simp [h7]
  have q8 : (k % 9 == 8) = false := by simp [h8]
  simp only [dM, dB, dL, h4, h5, h6, h7, h8, or_self, if_false]
  clear h4 h5 h6 h7 h8
  have hB : ∃ B, decide (L.length < 64) = B := ⟨_, rfl⟩
  obtain ⟨B, hB⟩ := hB
  rw [hB]
  have C1 := Lib.hid (hB ▸ netSend_any HN.out m)
  go_enter Try.func11, Try.ntmps11
  go_wp2_with fail
  with_reducible refine (C1.out).mono ?_
  rintro e w3 ⟨rfl, hN, hO⟩
  have HN3 := Lib.hid hN
  have HR3 := Lib.hid (HR.out.only hO (Ne.symm hne))
  have HO3 := Lib.hid (HO.out.trans hO)
  clear hN hO
  have y0 := HR3.out.cell 0
  have y1 := HR3.out.cell 1
  have y2 := HR3.out.cell 2
  have yf := fun j => HR3.out.free j
  clear C1 hB HN HO HR
  go_wp2_with fail
  refine bodyPost_ret (ret_ml2 rfl _ _ (w.heap.size + 1) (ml0) rfl (blk_row3 (ml0) HR3.out)) rfl ⟨rfl, ((HN3.out.other (Ne.symm hrb) 0 _).other (Ne.symm hrb) 1 _).other (Ne.symm hrb) 2 _, ((HO3.out.setCell (.inr (Nat.le_succ _)) _).setCell (.inr (Nat.le_succ _)) _).setCell (.inr (Nat.le_succ _)) _⟩

end Go.Proofs.Ytggflkjdpibioaa
