/- Layer 7: the document's net: Lose, Take for every place, by contracts. -/
import Derived.Test.YtggflkjdpibioaaNetsHa
import Derived.Test.YtggflkjdpibioaaNetsE
namespace Go.Proofs.Ytggflkjdpibioaa
set_option linter.unusedVariables false
open Go Go.RowKit

theorem keepQ_only {r : Nat} {L' : List Ml} {w w' : World} (h : Only r w w') (hR : RefIn w' w.heap.size r L') : KeepQ r w w' := fun q _ => ⟨fun k hk hkr _ => h.block k hk hkr, by
  obtain ⟨v, T, hb, ho, _, _⟩ := hR
  refine ⟨v.ownBlock, ⟨v, hb.cell 0, rfl⟩, ?_⟩
  cases hv : v.ownBlock with
  | none => exact .inr (.inl rfl)
  | some k => exact .inr (.inr ⟨k, (ho.lt k hv).1, rfl⟩)⟩
theorem keepQ_below {r : Nat} {w w' : World} (h : Below w.heap.size w w') : KeepQ r w w' := fun q ⟨v, hv, e⟩ => ⟨fun k hk _ _ => h.block k hk, q, ⟨v, (Below.cell h (p := ⟨r, 0, none⟩) (block_lt_of_cell hv)).trans hv, e⟩, .inl rfl⟩
theorem refLose_no {w : World} {base r : Nat} {L : List Ml} (h : RefIn w base r L) (i : Int) (hi : ¬ (0 ≤ i ∧ i < L.length)) :
    Calls Try.prog 25 #[.pointer (some ⟨r, 0, none⟩), .int .i64 i] w fun e w' => e = .returned (.bool false) ∧ w = w' := by
  have c1 := ref_is h i
  rw [decide_eq_false hi] at c1
  have C1 := Lib.hid c1
  clear c1 h
  go_enter Try.func25, Try.ntmps25
  go_wp2_with fail
  with_reducible refine (C1.out).mono ?_
  rintro e w1 ⟨rfl, rfl⟩
  go_wp2_with fail
  go_ret
  exact ⟨rfl, rfl⟩
theorem refLose_any {w : World} {base r : Nat} {L : List Ml} (h : RefIn w base r L) (i : Int) (hl : L.length ≤ 64) :
    Calls Try.prog 25 #[.pointer (some ⟨r, 0, none⟩), .int .i64 i] w fun e w' => e = .returned (.bool (lookB L i)) ∧ RefIn w' base r (eraseL L i) ∧ Away base r w w' ∧ KeepQ r w w' := by
  have hs : r < base ∧ base ≤ w.heap.size := by obtain ⟨_, _, _, _, h⟩ := h; exact h
  unfold lookB eraseL
  by_cases hi : 0 ≤ i ∧ i < L.length
  · rw [if_pos hi, decide_eq_true hi]
    obtain ⟨n, rfl⟩ := Int.eq_ofNat_of_zero_le hi.1
    exact (refLose_yes h n (by omega) hl).mono fun e w' ⟨he, hR, hO⟩ => ⟨he, hR.mono hs.2 hs.1, hO.away hs.2, keepQ_only hO hR⟩
  · rw [if_neg hi, decide_eq_false hi]
    exact (refLose_no h i hi).mono fun e w' ⟨he, hw⟩ => ⟨he, hw ▸ h, hw ▸ Away.ofBelow (Below.refl _ _) hs.2, hw ▸ keepQ_below (Below.refl _ _)⟩

set_option maxHeartbeats 1000000 in
theorem refNetTake_yes {w : World} {base r : Nat} {L : List Ml} (h : RefIn w base r L) (i : Nat) (hi : i < L.length) (hl : L.length ≤ 64) :
    Calls Try.prog 23 #[.pointer (some ⟨r, 0, none⟩), .int .i64 i] w fun e w' => e = .returned (.tuple #[mlV (lookM L i), .bool (lookB L i)]) ∧ RefIn w' w.heap.size r (L.take i ++ L.drop (i + 1)) ∧ Only r w w' := by
  have C1 := Lib.hid (fun W (h : RefIn W base r L) => refLook_any h i)
  have C2 := Lib.hid (fun W (h : RefIn W base r L) => refLose_yes h i hi hl)
  have H := Lib.hid h
  have hs : base ≤ w.heap.size := by obtain ⟨_, _, _, _, _, h⟩ := h; exact h
  generalize lookM L i = m at *
  generalize lookB L i = ok at *
  clear h
  go_enter Try.func23, Try.ntmps23
  go_wp2_with fail
  have HR1 : Hid (BlkIn #[.int .i64 ml0.src, .int .i64 ml0.dst, .string (S ml0.dat)] 31 (w.alloc (.cells #[.int .i64 0, .int .i64 0, .string ⟨#[]⟩] 31)) w.heap.size) := Lib.hid (heap_alloc_new w _)
  have HB1 := Lib.hid ((Below.refl w.heap.size w).alloc (Nat.le_refl _) (.cells #[.int .i64 0, .int .i64 0, .string ⟨#[]⟩] 31))
  have H1 := Lib.hid (H.out.below HB1.out)
  have hrl : r < w.heap.size := by obtain ⟨_, _, h, _⟩ := H.out; exact h.lt
  have hrn : w.heap.size ≠ r := by omega
  have hrn2 : r ≠ w.heap.size := by omega
  generalize (w.alloc (.cells #[.int .i64 0, .int .i64 0, .string ⟨#[]⟩] 31)) = W1 at *
  with_reducible refine (C1.out _ H1.out).mono ?_
  rintro e w2 ⟨rfl, hb⟩
  have H2 := Lib.hid (H1.out.below hb)
  have HR2 := Lib.hid (HR1.out.below hb)
  have HB2 := Lib.hid (below_step HB1.out hb)
  clear hb H HR1 H1 HB1 C1
  go_wp2_with fail
  have HQ3 : Hid (BlkIn #[.int .i64 m.src, .int .i64 m.dst, .string (S m.dat)] 31 (w2.alloc (.cells #[.int .i64 m.src, .int .i64 m.dst, .string (S m.dat)] 31)) w2.heap.size) := Lib.hid (heap_alloc_new w2 _)
  have hb := (Below.refl w2.heap.size w2).alloc (Nat.le_refl _) (.cells #[.int .i64 m.src, .int .i64 m.dst, .string (S m.dat)] 31)
  have H3 := Lib.hid (H2.out.below hb)
  have HR3 := Lib.hid (HR2.out.below hb)
  have HB3 := Lib.hid (below_step HB2.out hb)
  have hqr : w2.heap.size ≠ r := by have := HB2.out.size; omega
  have hqR : w.heap.size ≠ w2.heap.size := by have := HR2.out.lt; omega
  have hqR2 : w2.heap.size ≠ w.heap.size := by have := HR2.out.lt; omega
  clear hb H2 HR2 HB2
  generalize (w2.alloc (.cells #[.int .i64 m.src, .int .i64 m.dst, .string (S m.dat)] 31)) = W3 at *
  generalize w2.heap.size = Q at *
  have hRW := HR3.out.lt
  have hrb : r < base := by obtain ⟨_, _, _, _, h, _⟩ := H3.out; exact h
  with_reducible refine (C2.out _ H3.out).mono ?_
  rintro e w4 ⟨rfl, hN, hO⟩
  have H4 := Lib.hid hN
  have HR4 := Lib.hid (HR3.out.only hO hrn)
  have HQ4 := Lib.hid (HQ3.out.only hO hqr)
  have HO4 := Lib.hid ((Only.ofBelow (b := r) HB3.out).trans hO)
  clear hN hO H3 HR3 HQ3 HB3 C2
  have y0 := HR4.out.cell 0
  have y1 := HR4.out.cell 1
  have y2 := HR4.out.cell 2
  have yf := fun j => HR4.out.free j
  obtain ⟨x0, x1, x2⟩ := ml_cells HQ4.out
  go_wp2_with fail
  refine bodyPost_ret (ret_ml2 rfl _ _ w.heap.size m rfl (blk_row3 m HR4.out)) rfl ⟨rfl, ?_, ((HO4.out.setCell (.inr (Nat.le_refl _)) _).setCell (.inr (Nat.le_refl _)) _).setCell (.inr (Nat.le_refl _)) _⟩
  exact (((H4.out.set hRW hrn2 0 _).set hRW hrn2 1 _).set hRW hrn2 2 _).mono (Nat.le_of_lt hRW) hrl

set_option maxHeartbeats 1000000 in
theorem refNetTake_no {w : World} {base r : Nat} {L : List Ml} (h : RefIn w base r L) (i : Int) (hi : ¬ (0 ≤ i ∧ i < L.length)) :
    Calls Try.prog 23 #[.pointer (some ⟨r, 0, none⟩), .int .i64 i] w fun e w' => e = .returned (.tuple #[mlV (lookM L i), .bool (lookB L i)]) ∧ Below w.heap.size w w' := by
  have C1 := Lib.hid (fun W (h : RefIn W base r L) => refLook_any h i)
  have C2 := Lib.hid (fun W (h : RefIn W base r L) => refLose_no h i hi)
  have H := Lib.hid h
  have hs : base ≤ w.heap.size := by obtain ⟨_, _, _, _, _, h⟩ := h; exact h
  generalize lookM L i = m at *
  generalize lookB L i = ok at *
  clear h
  go_enter Try.func23, Try.ntmps23
  go_wp2_with fail
  have HR1 : Hid (BlkIn #[.int .i64 ml0.src, .int .i64 ml0.dst, .string (S ml0.dat)] 31 (w.alloc (.cells #[.int .i64 0, .int .i64 0, .string ⟨#[]⟩] 31)) w.heap.size) := Lib.hid (heap_alloc_new w _)
  have HB1 := Lib.hid ((Below.refl w.heap.size w).alloc (Nat.le_refl _) (.cells #[.int .i64 0, .int .i64 0, .string ⟨#[]⟩] 31))
  have H1 := Lib.hid (H.out.below HB1.out)
  have hrl : r < w.heap.size := by obtain ⟨_, _, h, _⟩ := H.out; exact h.lt
  have hrn : w.heap.size ≠ r := by omega
  have hrn2 : r ≠ w.heap.size := by omega
  generalize (w.alloc (.cells #[.int .i64 0, .int .i64 0, .string ⟨#[]⟩] 31)) = W1 at *
  with_reducible refine (C1.out _ H1.out).mono ?_
  rintro e w2 ⟨rfl, hb⟩
  have H2 := Lib.hid (H1.out.below hb)
  have HR2 := Lib.hid (HR1.out.below hb)
  have HB2 := Lib.hid (below_step HB1.out hb)
  clear hb H HR1 H1 HB1 C1
  go_wp2_with fail
  have HQ3 : Hid (BlkIn #[.int .i64 m.src, .int .i64 m.dst, .string (S m.dat)] 31 (w2.alloc (.cells #[.int .i64 m.src, .int .i64 m.dst, .string (S m.dat)] 31)) w2.heap.size) := Lib.hid (heap_alloc_new w2 _)
  have hb := (Below.refl w2.heap.size w2).alloc (Nat.le_refl _) (.cells #[.int .i64 m.src, .int .i64 m.dst, .string (S m.dat)] 31)
  have H3 := Lib.hid (H2.out.below hb)
  have HR3 := Lib.hid (HR2.out.below hb)
  have HB3 := Lib.hid (below_step HB2.out hb)
  have hqr : w2.heap.size ≠ r := by have := HB2.out.size; omega
  have hqR : w.heap.size ≠ w2.heap.size := by have := HR2.out.lt; omega
  have hqR2 : w2.heap.size ≠ w.heap.size := by have := HR2.out.lt; omega
  clear hb H2 HR2 HB2
  generalize (w2.alloc (.cells #[.int .i64 m.src, .int .i64 m.dst, .string (S m.dat)] 31)) = W3 at *
  generalize w2.heap.size = Q at *
  with_reducible refine (C2.out _ H3.out).mono ?_
  rintro e w4 ⟨rfl, rfl⟩
  have HR4 := HR3
  have HQ4 := HQ3
  clear H3 HR3 HQ3 C2
  have y0 := HR4.out.cell 0
  have y1 := HR4.out.cell 1
  have y2 := HR4.out.cell 2
  have yf := fun j => HR4.out.free j
  obtain ⟨x0, x1, x2⟩ := ml_cells HQ4.out
  go_wp2_with fail
  refine bodyPost_ret (ret_ml2 rfl _ _ w.heap.size m rfl (blk_row3 m HR4.out)) rfl ⟨rfl, ((HB3.out.setCell (Nat.le_refl _) _).setCell (Nat.le_refl _) _).setCell (Nat.le_refl _) _⟩

theorem refNetTake_any {w : World} {base r : Nat} {L : List Ml} (h : RefIn w base r L) (i : Int) (hl : L.length ≤ 64) :
    Calls Try.prog 23 #[.pointer (some ⟨r, 0, none⟩), .int .i64 i] w fun e w' => e = .returned (.tuple #[mlV (lookM L i), .bool (lookB L i)]) ∧ RefIn w' base r (eraseL L i) ∧ Away base r w w' ∧ KeepQ r w w' := by
  have hs : r < base ∧ base ≤ w.heap.size := by obtain ⟨_, _, _, _, h⟩ := h; exact h
  unfold eraseL
  by_cases hi : 0 ≤ i ∧ i < L.length
  · rw [if_pos hi]
    obtain ⟨n, rfl⟩ := Int.eq_ofNat_of_zero_le hi.1
    exact (refNetTake_yes h n (by omega) hl).mono fun e w' ⟨he, hR, hO⟩ => ⟨he, hR.mono hs.2 hs.1, hO.away hs.2, keepQ_only hO hR⟩
  · rw [if_neg hi]
    exact (refNetTake_no h i hi).mono fun e w' ⟨he, hb⟩ => ⟨he, h.below hb, Away.ofBelow hb hs.2, keepQ_below hb⟩

end Go.Proofs.Ytggflkjdpibioaa
