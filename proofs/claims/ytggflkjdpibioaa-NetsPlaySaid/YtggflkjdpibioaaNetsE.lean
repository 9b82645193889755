/- Layer 7: a net's methods for every place; does. -/
import Derived.Test.YtggflkjdpibioaaNetsD
import Derived.Test.YtggflkjdpibioaaNetsW
import Derived.Test.YtggflkjdpibioaaNetsN
import Derived.Deep.RegionHeld3
namespace Go.Proofs.Ytggflkjdpibioaa
set_option linter.unusedVariables false
open Go Go.RowKit

def eraseL (L : List Ml) (i : Int) : List Ml := if 0 ≤ i ∧ i < L.length then L.take i.toNat ++ L.drop (i.toNat + 1) else L
def doubleL (L : List Ml) (i : Int) : List Ml := if (0 ≤ i ∧ i < L.length) ∧ L.length < 64 then L.take (i.toNat + 1) ++ L.getD i.toNat ml0 :: L.drop (i.toNat + 1) else L
def sendL (L : List Ml) (m : Ml) : List Ml := if L.length < 64 then L ++ [m] else L
section
variable {w : World} {b : Nat} {L : List Ml}
theorem netSend_any (h : NetIn w b L) (m : Ml) :
    Calls Try.prog 21 #[.pointer (some ⟨b, 0, none⟩), mlV m] w fun e w' => e = .returned (.bool (decide (L.length < 64))) ∧ NetIn w' b (sendL L m) ∧ Only b w w' := by
  unfold sendL
  by_cases hl : L.length < 64
  · rw [if_pos hl, decide_eq_true hl]; exact netSend_room h hl m
  · rw [if_neg hl, decide_eq_false hl]; exact netSend_full h hl m
theorem netLook_any (h : NetIn w b L) (i : Int) :
    Calls Try.prog 17 #[.pointer (some ⟨b, 0, none⟩), .int .i64 i] w fun e w' => e = .returned (.tuple #[mlV (lookM L i), .bool (lookB L i)]) ∧ Below w.heap.size w w' := by
  unfold lookM lookB
  by_cases hi : 0 ≤ i ∧ i < L.length
  · rw [if_pos hi, decide_eq_true hi]
    obtain ⟨n, rfl⟩ := Int.eq_ofNat_of_zero_le hi.1
    exact netLook_yes h n (by omega)
  · rw [if_neg hi, decide_eq_false hi]; exact netLook_no h i hi
theorem netTake_any (h : NetIn w b L) (i : Int) :
    Calls Try.prog 20 #[.pointer (some ⟨b, 0, none⟩), .int .i64 i] w fun e w' => e = .returned (.tuple #[mlV (lookM L i), .bool (lookB L i)]) ∧ NetIn w' b (eraseL L i) ∧ Only b w w' := by
  unfold lookM lookB eraseL
  by_cases hi : 0 ≤ i ∧ i < L.length
  · rw [if_pos hi, if_pos hi, decide_eq_true hi]
    obtain ⟨n, rfl⟩ := Int.eq_ofNat_of_zero_le hi.1
    exact netTake_yes h n (by omega)
  · rw [if_neg hi, if_neg hi, decide_eq_false hi]
    exact (netTake_no h i hi).mono fun e w' ⟨he, hb⟩ => ⟨he, h.below hb, Only.ofBelow hb⟩
theorem netLose_any (h : NetIn w b L) (i : Int) :
    Calls Try.prog 19 #[.pointer (some ⟨b, 0, none⟩), .int .i64 i] w fun e w' => e = .returned (.bool (lookB L i)) ∧ NetIn w' b (eraseL L i) ∧ Only b w w' := by
  unfold lookB eraseL
  by_cases hi : 0 ≤ i ∧ i < L.length
  · rw [if_pos hi, decide_eq_true hi]
    obtain ⟨n, rfl⟩ := Int.eq_ofNat_of_zero_le hi.1
    exact netLose_yes h n (by omega)
  · rw [if_neg hi, decide_eq_false hi]
    exact (netLose_no h i hi).mono fun e w' ⟨he, hb⟩ => ⟨he, h.below hb, Only.ofBelow hb⟩
theorem netDouble_any (h : NetIn w b L) (i : Int) :
    Calls Try.prog 18 #[.pointer (some ⟨b, 0, none⟩), .int .i64 i] w fun e w' => e = .returned (.bool (decide ((0 ≤ i ∧ i < L.length) ∧ L.length < 64))) ∧ NetIn w' b (doubleL L i) ∧ Only b w w' := by
  unfold doubleL
  by_cases hi : 0 ≤ i ∧ i < L.length
  · by_cases hl : L.length < 64
    · rw [if_pos ⟨hi, hl⟩, decide_eq_true ⟨hi, hl⟩]
      obtain ⟨n, rfl⟩ := Int.eq_ofNat_of_zero_le hi.1
      exact netDouble_room h n (by omega) hl
    · rw [if_neg (fun x => hl x.2), decide_eq_false (fun x => hl x.2)]
      obtain ⟨n, rfl⟩ := Int.eq_ofNat_of_zero_le hi.1
      exact (netDouble_full h n (by omega) hl).mono fun e w' ⟨he, hb⟩ => ⟨he, h.below hb, Only.ofBelow hb⟩
  · rw [if_neg (fun x => hi x.1), decide_eq_false (fun x => hi x.1)]
    exact (netDouble_no h i hi).mono fun e w' ⟨he, hb⟩ => ⟨he, h.below hb, Only.ofBelow hb⟩
theorem NetIn.drew (h : NetIn w b L) : NetIn w.drew b L := h
theorem NetIn.more (h : NetIn w b L) (o : Obj) : NetIn (w.alloc o) b L := h.below ((Below.refl _ _).alloc (Nat.le_refl _) _)
end
theorem sz_alloc (w : World) (o : Obj) : (w.alloc o).heap.size = w.heap.size + 1 := by simp
theorem ml_cells {a c : Int} {l : List UInt8} {T : TypeId} {W : World} {X : Nat} (h : BlkIn #[.int .i64 a, .int .i64 c, .string (S l)] T W X) :
    W.cell? ⟨X, 0, none⟩ = some (.int .i64 a) ∧ W.cell? ⟨X, 1, none⟩ = some (.int .i64 c) ∧ W.cell? ⟨X, 2, none⟩ = some (.string (S l)) := ⟨h.cell 0, h.cell 1, h.cell 2⟩
theorem mlRow_blk {T : TypeId} {W : World} {X : Nat} {L : List Ml} (h : BlkIn (mls L).toArray T W X) (cap : Nat) : MlRow W (.slice (some ⟨X, 0, none⟩) L.length cap) L := by
  refine ⟨_, cap, rfl, fun _ => ⟨X, 0, rfl, fun j hj => ?_⟩⟩
  have k := fun i (hi : i < 3) => mls_get L j i hj hi
  refine ⟨?_, ?_, ?_⟩
  · rw [Nat.zero_add, h.cell]; exact List.getElem?_toArray.trans ((k 0 (by omega)).trans rfl)
  · rw [Nat.zero_add, h.cell]; exact List.getElem?_toArray.trans ((k 1 (by omega)).trans rfl)
  · rw [Nat.zero_add, h.cell]; exact List.getElem?_toArray.trans ((k 2 (by omega)).trans rfl)

theorem does7_c (b : Nat) :
    (∀ W, NetIn W b [] → Calls Try.prog 21 #[.pointer (some ⟨b, 0, none⟩), mlV ⟨0, 0, [97]⟩] W fun e w' => e = .returned (.bool true) ∧ NetIn w' b [⟨0, 0, [97]⟩] ∧ Only b W w') ∧
    (∀ W, NetIn W b [⟨0, 0, [97]⟩] → Calls Try.prog 21 #[.pointer (some ⟨b, 0, none⟩), mlV ⟨0, 0, [98]⟩] W fun e w' => e = .returned (.bool true) ∧ NetIn w' b [⟨0, 0, [97]⟩, ⟨0, 0, [98]⟩] ∧ Only b W w') ∧
    (∀ W, NetIn W b [⟨0, 0, [97]⟩, ⟨0, 0, [98]⟩] → Calls Try.prog 18 #[.pointer (some ⟨b, 0, none⟩), .int .i64 0] W fun e w' => e = .returned (.bool true) ∧ NetIn w' b [⟨0, 0, [97]⟩, ⟨0, 0, [97]⟩, ⟨0, 0, [98]⟩] ∧ Only b W w') ∧
    (∀ W, NetIn W b [⟨0, 0, [97]⟩, ⟨0, 0, [97]⟩, ⟨0, 0, [98]⟩] → Calls Try.prog 13 #[.pointer (some ⟨b, 0, none⟩)] W fun e w' => e = .returned (.int .i64 3) ∧ W = w') ∧
    (∀ W, NetIn W b [⟨0, 0, [97]⟩, ⟨0, 0, [97]⟩, ⟨0, 0, [98]⟩] → Calls Try.prog 14 #[.pointer (some ⟨b, 0, none⟩)] W fun e w' => ∃ v, e = .returned v ∧ MlRow w' v [⟨0, 0, [97]⟩, ⟨0, 0, [97]⟩, ⟨0, 0, [98]⟩] ∧ Below W.heap.size W w') ∧
    (∀ W, NetIn W b [⟨0, 0, [97]⟩, ⟨0, 0, [97]⟩, ⟨0, 0, [98]⟩] → Calls Try.prog 20 #[.pointer (some ⟨b, 0, none⟩), .int .i64 1] W fun e w' => e = .returned (.tuple #[mlV ⟨0, 0, [97]⟩, .bool true]) ∧ NetIn w' b [⟨0, 0, [97]⟩, ⟨0, 0, [98]⟩] ∧ Only b W w') ∧
    (∀ W, NetIn W b [⟨0, 0, [97]⟩, ⟨0, 0, [98]⟩] → Calls Try.prog 21 #[.pointer (some ⟨b, 0, none⟩), mlV ⟨0, 0, [99]⟩] W fun e w' => e = .returned (.bool true) ∧ NetIn w' b [⟨0, 0, [97]⟩, ⟨0, 0, [98]⟩, ⟨0, 0, [99]⟩] ∧ Only b W w') ∧
    (∀ W, NetIn W b [⟨0, 0, [97]⟩, ⟨0, 0, [98]⟩, ⟨0, 0, [99]⟩] → Calls Try.prog 19 #[.pointer (some ⟨b, 0, none⟩), .int .i64 0] W fun e w' => e = .returned (.bool true) ∧ NetIn w' b [⟨0, 0, [98]⟩, ⟨0, 0, [99]⟩] ∧ Only b W w') ∧
    (∀ W, NetIn W b [⟨0, 0, [98]⟩, ⟨0, 0, [99]⟩] → Calls Try.prog 19 #[.pointer (some ⟨b, 0, none⟩), .int .i64 5] W fun e w' => e = .returned (.bool false) ∧ NetIn w' b [⟨0, 0, [98]⟩, ⟨0, 0, [99]⟩] ∧ Only b W w') ∧
    (∀ W, NetIn W b [⟨0, 0, [98]⟩, ⟨0, 0, [99]⟩] → Calls Try.prog 14 #[.pointer (some ⟨b, 0, none⟩)] W fun e w' => ∃ v, e = .returned v ∧ MlRow w' v [⟨0, 0, [98]⟩, ⟨0, 0, [99]⟩] ∧ Below W.heap.size W w') :=
  ⟨fun W h => netSend_any h ⟨0, 0, [97]⟩, fun W h => netSend_any h ⟨0, 0, [98]⟩, fun W h => netDouble_any h 0, fun W h => netLen_any h,
   fun W h => (netAll_any h).mono fun e w' ⟨v, he, hr, hb⟩ => ⟨v, he, mlRow_of hr, hb⟩,
   fun W h => netTake_any h 1, fun W h => netSend_any h ⟨0, 0, [99]⟩, fun W h => netLose_any h 0, fun W h => netLose_any h 5,
   fun W h => (netAll_any h).mono fun e w' ⟨v, he, hr, hb⟩ => ⟨v, he, mlRow_of hr, hb⟩⟩

set_option maxHeartbeats 4000000 in
set_option maxRecDepth 100000 in
theorem does7 (w : World) :
    Calls Try.prog 16 #[] w fun e w' => e = .returned (.bool true) ∧ Below w.heap.size w w' := by
  go_enter Try.func16, Try.ntmps16
  go_wp2_with fail
  have HX : BlkIn #[.int .i64 0, .int .i64 0, .string ⟨#[97]⟩] 31 (((w.alloc (.cells #[.int .i64 0, .int .i64 0, .string ⟨#[97]⟩] 31)).alloc (.cells #[.int .i64 0, .int .i64 0, .string ⟨#[98]⟩] 31)).alloc (.cells #[.int .i64 0, .int .i64 0, .string ⟨#[99]⟩] 31)) w.heap.size := (BlkIn.more (BlkIn.more (heap_alloc_new w _) _) _)
  have HY : BlkIn #[.int .i64 0, .int .i64 0, .string ⟨#[98]⟩] 31 (((w.alloc (.cells #[.int .i64 0, .int .i64 0, .string ⟨#[97]⟩] 31)).alloc (.cells #[.int .i64 0, .int .i64 0, .string ⟨#[98]⟩] 31)).alloc (.cells #[.int .i64 0, .int .i64 0, .string ⟨#[99]⟩] 31)) (w.heap.size + 1) := (BlkIn.more (by have h := heap_alloc_new (w.alloc (.cells #[.int .i64 0, .int .i64 0, .string ⟨#[97]⟩] 31)) (.cells #[.int .i64 0, .int .i64 0, .string ⟨#[98]⟩] 31); rw [sz_alloc] at h; exact h) _)
  have HZ : BlkIn #[.int .i64 0, .int .i64 0, .string ⟨#[99]⟩] 31 (((w.alloc (.cells #[.int .i64 0, .int .i64 0, .string ⟨#[97]⟩] 31)).alloc (.cells #[.int .i64 0, .int .i64 0, .string ⟨#[98]⟩] 31)).alloc (.cells #[.int .i64 0, .int .i64 0, .string ⟨#[99]⟩] 31)) (w.heap.size + 1 + 1) := (by have h := heap_alloc_new ((w.alloc (.cells #[.int .i64 0, .int .i64 0, .string ⟨#[97]⟩] 31)).alloc (.cells #[.int .i64 0, .int .i64 0, .string ⟨#[98]⟩] 31)) (.cells #[.int .i64 0, .int .i64 0, .string ⟨#[99]⟩] 31); rw [sz_alloc, sz_alloc] at h; exact h)
  have hb3 : Below w.heap.size w (((w.alloc (.cells #[.int .i64 0, .int .i64 0, .string ⟨#[97]⟩] 31)).alloc (.cells #[.int .i64 0, .int .i64 0, .string ⟨#[98]⟩] 31)).alloc (.cells #[.int .i64 0, .int .i64 0, .string ⟨#[99]⟩] 31)) := ((((Below.refl _ _).alloc (Nat.le_refl _) _).alloc (by simp) _).alloc (by simp; omega) _)
  generalize (((w.alloc (.cells #[.int .i64 0, .int .i64 0, .string ⟨#[97]⟩] 31)).alloc (.cells #[.int .i64 0, .int .i64 0, .string ⟨#[98]⟩] 31)).alloc (.cells #[.int .i64 0, .int .i64 0, .string ⟨#[99]⟩] 31)) = W3 at *
  have hxl := HX.lt
  have hyl := HY.lt
  have hzl := HZ.lt
  generalize w.heap.size + 1 + 1 = Z at *
  generalize w.heap.size + 1 = Y at *
  generalize hX : w.heap.size = X at *
  with_reducible refine (netNew_any W3).mono ?_
  rintro e w0 ⟨rfl, hN0, hb0⟩
  have hx : X ≠ W3.heap.size := by omega
  have hy : Y ≠ W3.heap.size := by omega
  have hz : Z ≠ W3.heap.size := by omega
  have hbX : X ≤ W3.heap.size := by omega
  have Hx0 := Lib.hid (HX.below hb0)
  have Hy0 := Lib.hid (HY.below hb0)
  have Hz0 := Lib.hid (HZ.below hb0)
  have HXE := Lib.hid hX
  have HBW := Lib.hid (hb3.trans (hb0.mono (by omega)))
  have HN0 := Lib.hid hN0
  clear HX HY HZ hb0 hb3 hN0 hxl hyl hzl hX
  generalize W3.heap.size = b at *
  have HO0 := Lib.hid (Only.refl b w0)
  obtain ⟨c1, c2, c3, c4, c5, c6, c7, c8, c9, c10⟩ := does7_c b
  have C1 := Lib.hid c1; have C2 := Lib.hid c2; have C3 := Lib.hid c3; have C4 := Lib.hid c4; have C5 := Lib.hid c5; have C6 := Lib.hid c6; have C7 := Lib.hid c7; have C8 := Lib.hid c8; have C9 := Lib.hid c9; have C10 := Lib.hid c10
  clear c1 c2 c3 c4 c5 c6 c7 c8 c9 c10
  obtain ⟨x00, x01, x02⟩ := ml_cells Hx0.out
  obtain ⟨y00, y01, y02⟩ := ml_cells Hy0.out
  obtain ⟨z00, z01, z02⟩ := ml_cells Hz0.out
  go_wp2_with fail
  go_region_held3 (fun W => W.cell? ⟨X, 0, none⟩ = some (.int .i64 0) ∧ W.cell? ⟨X, 1, none⟩ = some (.int .i64 0) ∧ W.cell? ⟨X, 2, none⟩ = some (.string ⟨#[97]⟩) ∧ W.cell? ⟨Y, 0, none⟩ = some (.int .i64 0) ∧ W.cell? ⟨Y, 1, none⟩ = some (.int .i64 0) ∧ W.cell? ⟨Y, 2, none⟩ = some (.string ⟨#[98]⟩)) (go_keep) (first
      | (go_at_call 15; have _t := HR5; clear _t; refine (same_any (L := [⟨0, 0, [97]⟩, ⟨0, 0, [97]⟩, ⟨0, 0, [98]⟩]) (by first | exact HR5.out | exact HR5.out.below ((Below.refl _ _).alloc (Nat.le_refl _) _)) (by first | exact mlRow_blk (L := [⟨0, 0, [97]⟩, ⟨0, 0, [97]⟩, ⟨0, 0, [98]⟩]) (heap_alloc_new _ _) _ | exact mlRow_blk (L := [⟨0, 0, [97]⟩, ⟨0, 0, [97]⟩, ⟨0, 0, [98]⟩]) (BlkIn.below (heap_alloc_new _ _) HB5.out) _) (by simp)).mono ?_; rintro e w6 ⟨rfl, hb⟩; have HN6 : Hid (NetIn w6 b _) := Lib.hid (by first | exact HN5.out.below hb | exact (HN5.out.more _).below hb); have Hx6 : Hid (BlkIn _ _ w6 _) := Lib.hid (by first | exact Hx5.out.below hb | exact (Hx5.out.more _).below hb); have Hy6 : Hid (BlkIn _ _ w6 _) := Lib.hid (by first | exact Hy5.out.below hb | exact (Hy5.out.more _).below hb); have Hz6 : Hid (BlkIn _ _ w6 _) := Lib.hid (by first | exact Hz5.out.below hb | exact (Hz5.out.more _).below hb); have HO6 : Hid (Only b _ w6) := Lib.hid (by first | exact HO5.out.trans (Only.ofBelow hb) | exact (HO5.out.alloc _).trans (Only.ofBelow hb)); clear hb; obtain ⟨x60, x61, x62⟩ := ml_cells Hx6.out; obtain ⟨y60, y61, y62⟩ := ml_cells Hy6.out; obtain ⟨z60, z61, z62⟩ := ml_cells Hz6.out)
      | (go_at_call 14; have _t := HN3; clear _t; refine (C5.out _ (by first | exact HN3.out | exact HN3.out.drew | exact HN3.out.more _ | exact HN3.out.drew.more _)).mono ?_; rintro e w5 ⟨v5, rfl, hR, hb⟩; have HB5 : Hid _ := Lib.hid hb; have HN5 : Hid (NetIn w5 b _) := Lib.hid (by first | exact HN3.out.below hb | exact HN3.out.drew.below hb | exact (HN3.out.more _).below hb); have HR5 := Lib.hid hR; have Hx5 : Hid (BlkIn _ _ w5 _) := Lib.hid (by first | exact Hx3.out.below hb | exact Hx3.out.drew.below hb | exact (Hx3.out.more _).below hb); have Hy5 : Hid (BlkIn _ _ w5 _) := Lib.hid (by first | exact Hy3.out.below hb | exact Hy3.out.drew.below hb | exact (Hy3.out.more _).below hb); have Hz5 : Hid (BlkIn _ _ w5 _) := Lib.hid (by first | exact Hz3.out.below hb | exact Hz3.out.drew.below hb | exact (Hz3.out.more _).below hb); have HO5 : Hid (Only b _ w5) := Lib.hid (by first | exact HO3.out.trans (Only.ofBelow hb) | exact HO3.out.drew.trans (Only.ofBelow hb) | exact (HO3.out.alloc _).trans (Only.ofBelow hb)); clear hR hb; obtain ⟨x50, x51, x52⟩ := ml_cells Hx5.out; obtain ⟨y50, y51, y52⟩ := ml_cells Hy5.out; obtain ⟨z50, z51, z52⟩ := ml_cells Hz5.out)
      | (go_at_call 13; have _t := HN3; clear _t; refine (C4.out _ (by first | exact HN3.out | exact HN3.out.drew)).mono ?_; rintro e w' ⟨rfl, rfl⟩)
      | (go_at_call 18; have _t := HN2; clear _t; refine (C3.out _ (by first | exact HN2.out | exact HN2.out.drew)).mono ?_; rintro e w3 ⟨rfl, hN, hO⟩; have HN3 := Lib.hid hN; have Hx3 : Hid (BlkIn _ _ w3 _) := Lib.hid (by first | exact Hx2.out.only hO hx | exact Hx2.out.drew.only hO hx); have Hy3 : Hid (BlkIn _ _ w3 _) := Lib.hid (by first | exact Hy2.out.only hO hy | exact Hy2.out.drew.only hO hy); have Hz3 : Hid (BlkIn _ _ w3 _) := Lib.hid (by first | exact Hz2.out.only hO hz | exact Hz2.out.drew.only hO hz); have HO3 : Hid (Only b _ w3) := Lib.hid (by first | exact HO2.out.trans hO | exact HO2.out.drew.trans hO); clear hN hO; obtain ⟨x30, x31, x32⟩ := ml_cells Hx3.out; obtain ⟨y30, y31, y32⟩ := ml_cells Hy3.out; obtain ⟨z30, z31, z32⟩ := ml_cells Hz3.out)
      | (go_at_call 21; have _t := HN1; clear _t; refine (C2.out _ (by first | exact HN1.out | exact HN1.out.drew)).mono ?_; rintro e w2 ⟨rfl, hN, hO⟩; have HN2 := Lib.hid hN; have Hx2 : Hid (BlkIn _ _ w2 _) := Lib.hid (by first | exact Hx1.out.only hO hx | exact Hx1.out.drew.only hO hx); have Hy2 : Hid (BlkIn _ _ w2 _) := Lib.hid (by first | exact Hy1.out.only hO hy | exact Hy1.out.drew.only hO hy); have Hz2 : Hid (BlkIn _ _ w2 _) := Lib.hid (by first | exact Hz1.out.only hO hz | exact Hz1.out.drew.only hO hz); have HO2 : Hid (Only b _ w2) := Lib.hid (by first | exact HO1.out.trans hO | exact HO1.out.drew.trans hO); clear hN hO; obtain ⟨x20, x21, x22⟩ := ml_cells Hx2.out; obtain ⟨y20, y21, y22⟩ := ml_cells Hy2.out; obtain ⟨z20, z21, z22⟩ := ml_cells Hz2.out)
      | (go_at_call 21; have _t := HN0; clear _t; refine (C1.out _ (by first | exact HN0.out | exact HN0.out.drew)).mono ?_; rintro e w1 ⟨rfl, hN, hO⟩; have HN1 := Lib.hid hN; have Hx1 : Hid (BlkIn _ _ w1 _) := Lib.hid (by first | exact Hx0.out.only hO hx | exact Hx0.out.drew.only hO hx); have Hy1 : Hid (BlkIn _ _ w1 _) := Lib.hid (by first | exact Hy0.out.only hO hy | exact Hy0.out.drew.only hO hy); have Hz1 : Hid (BlkIn _ _ w1 _) := Lib.hid (by first | exact Hz0.out.only hO hz | exact Hz0.out.drew.only hO hz); have HO1 : Hid (Only b _ w1) := Lib.hid (by first | exact HO0.out.trans hO | exact HO0.out.drew.trans hO); clear hN hO; obtain ⟨x10, x11, x12⟩ := ml_cells Hx1.out; obtain ⟨y10, y11, y12⟩ := ml_cells Hy1.out; obtain ⟨z10, z11, z12⟩ := ml_cells Hz1.out))
  all_goals
    go_wp2_with fail
    with_reducible refine (C6.out _ HN6.out).mono ?_
    rintro e w7 ⟨rfl, hN, hO⟩
    have HN7 := Lib.hid hN
    have Hx7 := Lib.hid (Hx6.out.only hO hx)
    have Hy7 := Lib.hid (Hy6.out.only hO hy)
    have Hz7 := Lib.hid (Hz6.out.only hO hz)
    have HO7 := Lib.hid (HO6.out.trans hO)
    clear hN hO
    clear x00 x01 x02 y00 y01 y02 z00 z01 z02 x10 x11 x12 y10 y11 y12 z10 z11 z12 x20 x21 x22 y20 y21 y22 z20 z21 z22 x30 x31 x32 y30 y31 y32 z30 z31 z32 x50 x51 x52 y50 y51 y52 z50 z51 z52 x60 x61 x62 y60 y61 y62 z60 z61 z62
    go_wp2_with fail
    have Hx75 := Lib.hid (Hx7.out.more (.cells #[.int .i64 0, .int .i64 0, .string (S [97])] 31))
    have Hy75 := Lib.hid (Hy7.out.more (.cells #[.int .i64 0, .int .i64 0, .string (S [97])] 31))
    have Hz75 := Lib.hid (Hz7.out.more (.cells #[.int .i64 0, .int .i64 0, .string (S [97])] 31))
    have Hm75 : Hid (BlkIn #[.int .i64 0, .int .i64 0, .string (S [97])] 31 (w7.alloc (.cells #[.int .i64 0, .int .i64 0, .string (S [97])] 31)) w7.heap.size) := Lib.hid (heap_alloc_new w7 _)
    have HN75 := Lib.hid (HN7.out.more (.cells #[.int .i64 0, .int .i64 0, .string (S [97])] 31))
    have HO75 := Lib.hid (HO7.out.alloc (.cells #[.int .i64 0, .int .i64 0, .string (S [97])] 31))
    have hm : w7.heap.size ≠ b := by have := HN7.out.lt; omega
    generalize (w7.alloc (.cells #[.int .i64 0, .int .i64 0, .string (S [97])] 31)) = w75 at *
    generalize w7.heap.size = M at *
    clear Hx0 Hy0 Hz0 Hx1 Hy1 Hz1 Hx2 Hy2 Hz2 Hx3 Hy3 Hz3 Hx5 Hy5 Hz5 Hx6 Hy6 Hz6 Hx7 Hy7 Hz7 HN0 HN1 HN2 HN3 HN5 HN6 HN7 HO1 HO2 HO3 HO5 HO6 HO7 HR5 C1 C2 C3 C4 C5 C6
    obtain ⟨x750, x751, x752⟩ := ml_cells Hx75.out
    obtain ⟨y750, y751, y752⟩ := ml_cells Hy75.out
    obtain ⟨z750, z751, z752⟩ := ml_cells Hz75.out
    obtain ⟨m750, m751, m752⟩ := ml_cells Hm75.out
    go_region_held3 (fun W => W.cell? ⟨X, 0, none⟩ = some (.int .i64 0) ∧ W.cell? ⟨X, 1, none⟩ = some (.int .i64 0) ∧ W.cell? ⟨X, 2, none⟩ = some (.string ⟨#[97]⟩) ∧ W.cell? ⟨Y, 0, none⟩ = some (.int .i64 0) ∧ W.cell? ⟨Y, 1, none⟩ = some (.int .i64 0) ∧ W.cell? ⟨Y, 2, none⟩ = some (.string ⟨#[98]⟩) ∧ W.cell? ⟨Z, 0, none⟩ = some (.int .i64 0) ∧ W.cell? ⟨Z, 1, none⟩ = some (.int .i64 0) ∧ W.cell? ⟨Z, 2, none⟩ = some (.string ⟨#[99]⟩) ∧ W.cell? ⟨M, 0, none⟩ = some (.int .i64 0) ∧ W.cell? ⟨M, 1, none⟩ = some (.int .i64 0) ∧ W.cell? ⟨M, 2, none⟩ = some (.string ⟨#[97]⟩)) (go_keep) (first
      | (go_at_call 15; have _t := HR11; clear _t; refine (same_any (L := [⟨0, 0, [98]⟩, ⟨0, 0, [99]⟩]) (by first | exact HR11.out | exact HR11.out.below ((Below.refl _ _).alloc (Nat.le_refl _) _)) (by first | exact mlRow_blk (L := [⟨0, 0, [98]⟩, ⟨0, 0, [99]⟩]) (heap_alloc_new _ _) _ | exact mlRow_blk (L := [⟨0, 0, [98]⟩, ⟨0, 0, [99]⟩]) (BlkIn.below (heap_alloc_new _ _) HB11.out) _) (by simp)).mono ?_; rintro e w12 ⟨rfl, hb⟩; have HN12 : Hid (NetIn w12 b _) := Lib.hid (by first | exact HN11.out.below hb | exact (HN11.out.more _).below hb); have Hx12 : Hid (BlkIn _ _ w12 _) := Lib.hid (by first | exact Hx11.out.below hb | exact (Hx11.out.more _).below hb); have Hy12 : Hid (BlkIn _ _ w12 _) := Lib.hid (by first | exact Hy11.out.below hb | exact (Hy11.out.more _).below hb); have Hz12 : Hid (BlkIn _ _ w12 _) := Lib.hid (by first | exact Hz11.out.below hb | exact (Hz11.out.more _).below hb); have Hm12 : Hid (BlkIn _ _ w12 _) := Lib.hid (by first | exact Hm11.out.below hb | exact (Hm11.out.more _).below hb); have HO12 : Hid (Only b _ w12) := Lib.hid (by first | exact HO11.out.trans (Only.ofBelow hb) | exact (HO11.out.alloc _).trans (Only.ofBelow hb)); clear hb; obtain ⟨x120, x121, x122⟩ := ml_cells Hx12.out; obtain ⟨y120, y121, y122⟩ := ml_cells Hy12.out; obtain ⟨z120, z121, z122⟩ := ml_cells Hz12.out; obtain ⟨m120, m121, m122⟩ := ml_cells Hm12.out)
      | (go_at_call 14; have _t := HN10; clear _t; refine (C10.out _ (by first | exact HN10.out | exact HN10.out.drew | exact HN10.out.more _ | exact HN10.out.drew.more _)).mono ?_; rintro e w11 ⟨v11, rfl, hR, hb⟩; have HB11 : Hid _ := Lib.hid hb; have HN11 : Hid (NetIn w11 b _) := Lib.hid (by first | exact HN10.out.below hb | exact HN10.out.drew.below hb | exact (HN10.out.more _).below hb); have HR11 := Lib.hid hR; have Hx11 : Hid (BlkIn _ _ w11 _) := Lib.hid (by first | exact Hx10.out.below hb | exact Hx10.out.drew.below hb | exact (Hx10.out.more _).below hb); have Hy11 : Hid (BlkIn _ _ w11 _) := Lib.hid (by first | exact Hy10.out.below hb | exact Hy10.out.drew.below hb | exact (Hy10.out.more _).below hb); have Hz11 : Hid (BlkIn _ _ w11 _) := Lib.hid (by first | exact Hz10.out.below hb | exact Hz10.out.drew.below hb | exact (Hz10.out.more _).below hb); have Hm11 : Hid (BlkIn _ _ w11 _) := Lib.hid (by first | exact Hm10.out.below hb | exact Hm10.out.drew.below hb | exact (Hm10.out.more _).below hb); have HO11 : Hid (Only b _ w11) := Lib.hid (by first | exact HO10.out.trans (Only.ofBelow hb) | exact HO10.out.drew.trans (Only.ofBelow hb) | exact (HO10.out.alloc _).trans (Only.ofBelow hb)); clear hR hb; obtain ⟨x110, x111, x112⟩ := ml_cells Hx11.out; obtain ⟨y110, y111, y112⟩ := ml_cells Hy11.out; obtain ⟨z110, z111, z112⟩ := ml_cells Hz11.out; obtain ⟨m110, m111, m112⟩ := ml_cells Hm11.out)
      | (go_at_call 19; have _t := HN9; clear _t; refine (C9.out _ (by first | exact HN9.out | exact HN9.out.drew)).mono ?_; rintro e w10 ⟨rfl, hN, hO⟩; have HN10 := Lib.hid hN; have Hx10 : Hid (BlkIn _ _ w10 _) := Lib.hid (by first | exact Hx9.out.only hO hx | exact Hx9.out.drew.only hO hx); have Hy10 : Hid (BlkIn _ _ w10 _) := Lib.hid (by first | exact Hy9.out.only hO hy | exact Hy9.out.drew.only hO hy); have Hz10 : Hid (BlkIn _ _ w10 _) := Lib.hid (by first | exact Hz9.out.only hO hz | exact Hz9.out.drew.only hO hz); have Hm10 : Hid (BlkIn _ _ w10 _) := Lib.hid (by first | exact Hm9.out.only hO hm | exact Hm9.out.drew.only hO hm); have HO10 : Hid (Only b _ w10) := Lib.hid (by first | exact HO9.out.trans hO | exact HO9.out.drew.trans hO); clear hN hO; obtain ⟨x100, x101, x102⟩ := ml_cells Hx10.out; obtain ⟨y100, y101, y102⟩ := ml_cells Hy10.out; obtain ⟨z100, z101, z102⟩ := ml_cells Hz10.out; obtain ⟨m100, m101, m102⟩ := ml_cells Hm10.out)
      | (go_at_call 19; have _t := HN8; clear _t; refine (C8.out _ (by first | exact HN8.out | exact HN8.out.drew)).mono ?_; rintro e w9 ⟨rfl, hN, hO⟩; have HN9 := Lib.hid hN; have Hx9 : Hid (BlkIn _ _ w9 _) := Lib.hid (by first | exact Hx8.out.only hO hx | exact Hx8.out.drew.only hO hx); have Hy9 : Hid (BlkIn _ _ w9 _) := Lib.hid (by first | exact Hy8.out.only hO hy | exact Hy8.out.drew.only hO hy); have Hz9 : Hid (BlkIn _ _ w9 _) := Lib.hid (by first | exact Hz8.out.only hO hz | exact Hz8.out.drew.only hO hz); have Hm9 : Hid (BlkIn _ _ w9 _) := Lib.hid (by first | exact Hm8.out.only hO hm | exact Hm8.out.drew.only hO hm); have HO9 : Hid (Only b _ w9) := Lib.hid (by first | exact HO8.out.trans hO | exact HO8.out.drew.trans hO); clear hN hO; obtain ⟨x90, x91, x92⟩ := ml_cells Hx9.out; obtain ⟨y90, y91, y92⟩ := ml_cells Hy9.out; obtain ⟨z90, z91, z92⟩ := ml_cells Hz9.out; obtain ⟨m90, m91, m92⟩ := ml_cells Hm9.out)
      | (go_at_call 21; have _t := HN75; clear _t; refine (C7.out _ (by first | exact HN75.out | exact HN75.out.drew)).mono ?_; rintro e w8 ⟨rfl, hN, hO⟩; have HN8 := Lib.hid hN; have Hx8 : Hid (BlkIn _ _ w8 _) := Lib.hid (by first | exact Hx75.out.only hO hx | exact Hx75.out.drew.only hO hx); have Hy8 : Hid (BlkIn _ _ w8 _) := Lib.hid (by first | exact Hy75.out.only hO hy | exact Hy75.out.drew.only hO hy); have Hz8 : Hid (BlkIn _ _ w8 _) := Lib.hid (by first | exact Hz75.out.only hO hz | exact Hz75.out.drew.only hO hz); have Hm8 : Hid (BlkIn _ _ w8 _) := Lib.hid (by first | exact Hm75.out.only hO hm | exact Hm75.out.drew.only hO hm); have HO8 : Hid (Only b _ w8) := Lib.hid (by first | exact HO75.out.trans hO | exact HO75.out.drew.trans hO); clear hN hO; obtain ⟨x80, x81, x82⟩ := ml_cells Hx8.out; obtain ⟨y80, y81, y82⟩ := ml_cells Hy8.out; obtain ⟨z80, z81, z82⟩ := ml_cells Hz8.out; obtain ⟨m80, m81, m82⟩ := ml_cells Hm8.out))
    all_goals
      go_wp2_with fail
      go_ret
      refine ⟨rfl, ?_⟩
      rw [HXE.out]
      exact HBW.out.trans (HO12.out.below hbX (by have := HBW.out.size; have := HXE.out; omega))

end Go.Proofs.Ytggflkjdpibioaa
