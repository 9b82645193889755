/- Layer 12: PostsDecode, walked. -/
import Derived.Test.YtblgfhljaafmhaaPostsU2
namespace Go.Proofs.Ytblgfhljaafmhaa
set_option linter.unusedVariables false
open Go Go.RowKit
attribute [local go_sem ↓] run_index_S
attribute [local go_sem] S_append S_extract

/-- A block with room for so many cells, which may be written. -/
def RoomP (N : Nat) (T : TypeId) (w : World) (g : Nat) : Prop := ∃ C, RowIn C T w g ∧ N ≤ C.size
theorem RoomP.below {N : Nat} {T : TypeId} {w w' : World} {g : Nat} (h : RoomP N T w g) (hb : Below w.heap.size w w') : RoomP N T w' g := by
  obtain ⟨C, h1, h2⟩ := h
  exact ⟨C, h1.below hb, h2⟩
theorem RoomP.set {N : Nat} {T : TypeId} {w : World} {g : Nat} (h : RoomP N T w g) (i : Nat) (v : Value) : RoomP N T (w.setCell ⟨g, i, none⟩ v) g := by
  obtain ⟨C, h1, h2⟩ := h
  exact ⟨_, h1.set i v, by simpa using h2⟩
theorem RoomP.cell {N : Nat} {T : TypeId} {w : World} {g : Nat} (h : RoomP N T w g) (i : Nat) (hi : i < N) : ∃ v, w.cell? ⟨g, i, none⟩ = some v := by
  obtain ⟨C, h1, h2⟩ := h
  exact ⟨_, (h1.cell i).trans (Array.getElem?_eq_getElem (by omega))⟩
theorem RoomP.free {N : Nat} {T : TypeId} {w : World} {g : Nat} (h : RoomP N T w g) (i : Nat) : w.frozen? ⟨g, i, none⟩ = false := by
  obtain ⟨C, h1, h2⟩ := h
  exact h1.free i
theorem RoomP.lt {N : Nat} {T : TypeId} {w : World} {g : Nat} (h : RoomP N T w g) : g < w.heap.size := by
  obtain ⟨C, h1, h2⟩ := h
  exact h1.lt
theorem roomP_own {B : Nat} {w : World} {g o n cap : Nat} {xs : List Value} (h : w.ownsRow B 29 8 (.slice (some ⟨g, o, none⟩) n cap) n xs) : RoomP (n * 8) 29 w g ∧ B ≤ g ∧ o = 0 := by
  rcases h.2 with ⟨e, _⟩ | ⟨g', cap', cur, e, hB, hg, hc, hm, hs, _⟩
  · cases e
  · injection e with e1 e2 e3
    injection e1 with e1
    injection e1 with e4 e5
    subst e4 e5 e3
    exact ⟨⟨cur, hg, by rw [hs]; exact Nat.mul_le_mul_right 8 hc⟩, hB, rfl⟩
theorem ownP_addr {B : Nat} {w : World} {ao : Option Addr} {n cap : Nat} {xs : List Value} (h : w.ownsRow B 29 8 (.slice ao n cap) n xs) (hn : 0 < n) : ∃ g, ao = some ⟨g, 0, none⟩ := by
  rcases h.2 with ⟨_, e⟩ | ⟨g', cap', cur, e, _⟩
  · omega
  · injection e with e1 e2 e3
    exact ⟨g', e1⟩

set_option maxHeartbeats 4000000 in
set_option maxRecDepth 100000 in
theorem pdec_long (s : List UInt8) (h : 3000 < s.length) (W : World) :
    Calls Try.prog 4 #[.string (S s)] W fun e w' => e = .returned (.bool true) ∧ Below W.heap.size W w' := by
  have d1 : decide (3000 < (s.length : Int)) = true := by simp; omega
  go_enter Try.func4, Try.ntmps4
  go_wp2_with fail
  go_ret
  exact ⟨rfl, Below.refl _ _⟩

set_option maxHeartbeats 8000000 in
set_option maxRecDepth 100000 in
theorem pdec_none (s : List UInt8) (h : s.length ≤ 3000) (hr : M.decB s = none) (W : World) :
    Calls Try.prog 4 #[.string (S s)] W fun e w' => e = .returned (.bool true) ∧ Below W.heap.size W w' := by
  have d1 : decide (3000 < (s.length : Int)) = false := by simp; omega
  have C1 := Lib.hid (fun W' => by have := decBatch_any s (by omega) W'; rw [hr] at this; exact this)
  have C2 := Lib.hid (fun W' => by have := refDecBatch_any s (by omega) W'; rw [hr] at this; exact this)
  have C3 := Lib.hid (fun W' => decAck_any s (by omega) W')
  have C4 := Lib.hid (fun W' => refDecAck_any s (by omega) W')
  simp only [decAV, DecB] at C1 C2 C3 C4
  generalize hax : akX (M.decA s) = ax at *
  generalize hae : akE (M.decA s) = ae at *
  clear hr hax hae
  have C8 : Hid (∀ W', Calls Try.prog 14 #[.agg #[.int .i64 0, .int .i64 0, .slice none 0 0], .agg #[.int .i64 0, .int .i64 0, .slice none 0 0]] W' fun e w' => e = .returned (.bool true) ∧ Below W'.heap.size W' w') := Lib.hid (fun W' => (sameBatch_any (w := W') (ao := none) (bo := none) ⟨0, 0, []⟩ ⟨0, 0, []⟩ 0 0 (fun h => absurd rfl h) (fun h => absurd rfl h) (by decide) (by decide)).mono fun e w' h => h.is rfl)
  go_enter Try.func4, Try.ntmps4
  go_wp2_with fail
  with_reducible refine (C1.out _).mono ?_
  rintro e w1 ⟨rfl, hb1⟩
  have HB1 := Lib.hid hb1
  clear hb1
  go_wp2_with (refine wpList_store_hid rfl 24 _ _ rfl w1.heap.size _ rfl rfl 24 bz (rowIn_new bz 24 w1) ?_ rfl bz_one ?_; kernel_rfl; intro w2 hr hbel hoth hsz; have hb := hbel w1.heap.size w1 (Nat.le_refl _) ((Below.refl _ _).alloc (Nat.le_refl _) _); have HB2 := Lib.hid (below_step HB1.out hb); have HRa2 := Lib.hid (show RowIn #[.int .i64 0, .int .i64 0, .slice none 0 0] 24 w2 w1.heap.size from hr); clear hr hbel hoth hsz hb)
  have hx1 := HRa2.out.lt
  generalize w1.heap.size = X at *
  with_reducible refine (C2.out _).mono ?_
  rintro e w3 ⟨rfl, hb3⟩
  have HRa3 := Lib.hid (HRa2.out.below hb3)
  have HB3 := Lib.hid (below_step HB2.out hb3)
  clear hb3
  go_wp2_with (refine wpList_store_hid rfl 24 _ _ rfl w3.heap.size _ rfl rfl 24 bz (rowIn_new bz 24 w3) ?_ rfl bz_one ?_; kernel_rfl; intro w4 hr hbel hoth hsz; have hb := hbel w3.heap.size w3 (Nat.le_refl _) ((Below.refl _ _).alloc (Nat.le_refl _) _); have HRa4 := Lib.hid (HRa3.out.below hb); have HB4 := Lib.hid (below_step HB3.out hb); have HRb4 := Lib.hid (show RowIn #[.int .i64 0, .int .i64 0, .slice none 0 0] 24 w4 w3.heap.size from hr); clear hr hbel hoth hsz hb)
  have hx3 := HRb4.out.lt
  have hx13 := HRa3.out.lt
  generalize w3.heap.size = Y at *
  with_reducible refine (C3.out _).mono ?_
  rintro e w5 ⟨rfl, hb5⟩
  have HRa5 := Lib.hid (HRa4.out.below hb5)
  have HRb5 := Lib.hid (HRb4.out.below hb5)
  have HB5 := Lib.hid (below_step HB4.out hb5)
  clear hb5
  go_wp2_with (refine wpList_store_hid rfl 26 _ _ rfl w5.heap.size _ rfl rfl 26 (akC ak0) (rowIn_new (akC ak0) 26 w5) ?_ rfl (akC_one ax) ?_; kernel_rfl; intro w6 hr hbel hoth hsz; have hb := hbel w5.heap.size w5 (Nat.le_refl _) ((Below.refl _ _).alloc (Nat.le_refl _) _); have HRa6 := Lib.hid (HRa5.out.below hb); have HRb6 := Lib.hid (HRb5.out.below hb); have HB6 := Lib.hid (below_step HB5.out hb); have HK6 := Lib.hid (show RowIn (akC ax) 26 w6 w5.heap.size from hr); clear hr hbel hoth hsz hb)
  have hx5 := HK6.out.lt
  generalize w5.heap.size = U at *
  with_reducible refine (C4.out _).mono ?_
  rintro e w7 ⟨rfl, hb7⟩
  have HRa7 := Lib.hid (HRa6.out.below hb7)
  have HRb7 := Lib.hid (HRb6.out.below hb7)
  have HK7 := Lib.hid (HK6.out.below hb7)
  have HB7 := Lib.hid (below_step HB6.out hb7)
  clear hb7
  have HV := Lib.hid (rfl : w7.heap.size = w7.heap.size)
  clear HV
  go_wp2_with (first | (refine wpList_store_hid rfl 26 _ _ rfl w7.heap.size _ rfl rfl 26 (akC ak0) (rowIn_new (akC ak0) 26 w7) ?_ rfl (akC_one ax) ?_; kernel_rfl; intro w8 hr hbel hoth hsz; have hb := hbel w7.heap.size w7 (Nat.le_refl _) ((Below.refl _ _).alloc (Nat.le_refl _) _); have HRa8 := Lib.hid (HRa7.out.below hb); have HRb8 := Lib.hid (HRb7.out.below hb); have HK8 := Lib.hid (HK7.out.below hb); have HB8 := Lib.hid (below_step HB7.out hb); have HJ8 := Lib.hid (show RowIn (akC ax) 26 w8 w7.heap.size from hr); have r0 : w8.cell? ⟨X, 0, none⟩ = some (.int .i64 0) := HRa8.out.cell 0; have r1 : w8.cell? ⟨X, 1, none⟩ = some (.int .i64 0) := HRa8.out.cell 1; have r2 : w8.cell? ⟨X, 2, none⟩ = some (.slice none 0 0) := HRa8.out.cell 2; have s0 : w8.cell? ⟨Y, 0, none⟩ = some (.int .i64 0) := HRb8.out.cell 0; have s1 : w8.cell? ⟨Y, 1, none⟩ = some (.int .i64 0) := HRb8.out.cell 1; have s2 : w8.cell? ⟨Y, 2, none⟩ = some (.slice none 0 0) := HRb8.out.cell 2; have q0 : w8.cell? ⟨U, 0, none⟩ = some (.int .i64 ax.host) := HK8.out.cell 0; have q1 : w8.cell? ⟨U, 1, none⟩ = some (.int .i64 ax.first) := HK8.out.cell 1; have q2 : w8.cell? ⟨U, 2, none⟩ = some (.int .i64 ax.next) := HK8.out.cell 2; have p0 : w8.cell? ⟨w7.heap.size, 0, none⟩ = some (.int .i64 ax.host) := HJ8.out.cell 0; have p1 : w8.cell? ⟨w7.heap.size, 1, none⟩ = some (.int .i64 ax.first) := HJ8.out.cell 1; have p2 : w8.cell? ⟨w7.heap.size, 2, none⟩ = some (.int .i64 ax.next) := HJ8.out.cell 2; clear hr hbel hoth hsz hb) | (go_at_call 14; have _t := HB8; clear _t; refine (C8.out _).mono ?_; rintro e w9 ⟨rfl, hb9⟩; have HRa9 := Lib.hid (HRa8.out.below hb9); have HRb9 := Lib.hid (HRb8.out.below hb9); have HK9 := Lib.hid (HK8.out.below hb9); have HJ9 := Lib.hid (HJ8.out.below hb9); have HB9 := Lib.hid (below_step HB8.out hb9); clear hb9; clear r0 r1 r2 s0 s1 s2 q0 q1 q2 p0 p1 p2; have r0 : w9.cell? ⟨X, 0, none⟩ = some (.int .i64 0) := HRa9.out.cell 0; have r1 : w9.cell? ⟨X, 1, none⟩ = some (.int .i64 0) := HRa9.out.cell 1; have r2 : w9.cell? ⟨X, 2, none⟩ = some (.slice none 0 0) := HRa9.out.cell 2; have s0 : w9.cell? ⟨Y, 0, none⟩ = some (.int .i64 0) := HRb9.out.cell 0; have s1 : w9.cell? ⟨Y, 1, none⟩ = some (.int .i64 0) := HRb9.out.cell 1; have s2 : w9.cell? ⟨Y, 2, none⟩ = some (.slice none 0 0) := HRb9.out.cell 2; have q0 : w9.cell? ⟨U, 0, none⟩ = some (.int .i64 ax.host) := HK9.out.cell 0; have q1 : w9.cell? ⟨U, 1, none⟩ = some (.int .i64 ax.first) := HK9.out.cell 1; have q2 : w9.cell? ⟨U, 2, none⟩ = some (.int .i64 ax.next) := HK9.out.cell 2; have p0 : w9.cell? ⟨w7.heap.size, 0, none⟩ = some (.int .i64 ax.host) := HJ9.out.cell 0; have p1 : w9.cell? ⟨w7.heap.size, 1, none⟩ = some (.int .i64 ax.first) := HJ9.out.cell 1; have p2 : w9.cell? ⟨w7.heap.size, 2, none⟩ = some (.int .i64 ax.next) := HJ9.out.cell 2))
  go_loopw [11] (fun i wr => i = .int .i64 0 ∧ wr = w9) (fun i _ => 0)
  case atStart => exact ⟨rfl, rfl⟩
  case round =>
    rename_i wr
    obtain ⟨rfl, rfl⟩ := hrel
    go_wp2_with fail
    with_reducible refine (C1.out _).mono ?_
    rintro e w10 ⟨rfl, hb10⟩
    have HRa10 := Lib.hid (HRa9.out.below hb10)
    have HRb10 := Lib.hid (HRb9.out.below hb10)
    have HB10 := Lib.hid (below_step HB9.out hb10)
    clear hb10
    clear r0 r1 r2 s0 s1 s2 q0 q1 q2 p0 p1 p2
    go_wp2_with (first | (refine wpList_store_hid rfl 24 _ _ rfl w10.heap.size _ rfl rfl 24 bz (rowIn_new bz 24 w10) ?_ rfl bz_one ?_; kernel_rfl; intro w11 hr hbel hoth hsz; have hb := hbel w10.heap.size w10 (Nat.le_refl _) ((Below.refl _ _).alloc (Nat.le_refl _) _); have HRa11 := Lib.hid (HRa10.out.below hb); have HRb11 := Lib.hid (HRb10.out.below hb); have HB11 := Lib.hid (below_step HB10.out hb); have z0 := hr.cell 0; have z1 := hr.cell 1; have z2 := hr.cell 2; have HZ11 := Lib.hid hr; clear z0 z1 z2; have z0 : w11.cell? ⟨w10.heap.size, 0, none⟩ = some (.int .i64 0) := HZ11.out.cell 0; have z1 : w11.cell? ⟨w10.heap.size, 1, none⟩ = some (.int .i64 0) := HZ11.out.cell 1; have z2 : w11.cell? ⟨w10.heap.size, 2, none⟩ = some (.slice none 0 0) := HZ11.out.cell 2; have r0 : w11.cell? ⟨X, 0, none⟩ = some (.int .i64 0) := HRa11.out.cell 0; have r1 : w11.cell? ⟨X, 1, none⟩ = some (.int .i64 0) := HRa11.out.cell 1; have r2 : w11.cell? ⟨X, 2, none⟩ = some (.slice none 0 0) := HRa11.out.cell 2; have s0 : w11.cell? ⟨Y, 0, none⟩ = some (.int .i64 0) := HRb11.out.cell 0; have s1 : w11.cell? ⟨Y, 1, none⟩ = some (.int .i64 0) := HRb11.out.cell 1; have s2 : w11.cell? ⟨Y, 2, none⟩ = some (.slice none 0 0) := HRb11.out.cell 2; clear hr hbel hoth hsz hb) | (go_at_call 14; have _t := HB11; clear _t; refine (C8.out _).mono ?_; rintro e w12 ⟨rfl, hb12⟩) | (go_at_call 15; refine (does12 _).mono ?_; rintro e wD ⟨rfl, hbD⟩))
    go_ret
    exact ⟨rfl, below_step (below_step HB11.out hb12) hbD⟩

set_option maxHeartbeats 8000000 in
set_option maxRecDepth 100000 in
theorem pdec_some (s : List UInt8) (h : s.length ≤ 3000) {h0 f0 : Int} {L : List M.Sp} (hr : M.decB s = some ⟨h0, f0, L⟩) (hL : L.length ≤ 8) (W : World) :
    Calls Try.prog 4 #[.string (S s)] W fun e w' => e = .returned (.bool true) ∧ Below W.heap.size W w' := by
  have d1 : decide (3000 < (s.length : Int)) = false := by simp; omega
  have C1 := Lib.hid (fun W' => by have := decBatch_any s (by omega) W'; rw [hr] at this; exact this)
  have C2 := Lib.hid (fun W' => by have := refDecBatch_any s (by omega) W'; rw [hr] at this; exact this)
  have C3 := Lib.hid (fun W' => decAck_any s (by omega) W')
  have C4 := Lib.hid (fun W' => refDecAck_any s (by omega) W')
  simp only [decAV, DecB] at C1 C2 C3 C4
  generalize hax : akX (M.decA s) = ax at *
  generalize hae : akE (M.decA s) = ae at *
  clear hr hax hae
  have C8 := Lib.hid (fun W' ao bo c1 c2 ha hb => (sameBatch_any (w := W') (ao := ao) (bo := bo) ⟨h0, f0, L⟩ ⟨h0, f0, L⟩ c1 c2 ha hb (by dsimp only; omega) (by dsimp only; omega)).mono fun e w' h => h.is rfl)
  dsimp only at C8
  go_enter Try.func4, Try.ntmps4
  go_wp2_with fail
  with_reducible refine (C1.out _).mono ?_
  rintro e w1 ⟨ao1, cap1, rfl, ho1, hb1⟩
  have HB1 := Lib.hid hb1
  have HOa1 := Lib.hid ho1
  clear ho1
  clear hb1
  go_wp2_with (refine wpList_store_hid rfl 24 _ _ rfl w1.heap.size _ rfl rfl 24 bz (rowIn_new bz 24 w1) ?_ rfl (btC_one h0 f0 ao1 L.length cap1) ?_; kernel_rfl; intro w2 hr hbel hoth hsz; have hb := hbel w1.heap.size w1 (Nat.le_refl _) ((Below.refl _ _).alloc (Nat.le_refl _) _); have HOa2 := Lib.hid (ownP_below HOa1.out hb); have HB2 := Lib.hid (below_step HB1.out hb); have HRa2 := Lib.hid (show RowIn #[.int .i64 h0, .int .i64 f0, .slice ao1 L.length cap1] 24 w2 w1.heap.size from hr); clear hr hbel hoth hsz hb)
  have hx1 := HRa2.out.lt
  have HGX : Hid (∀ g, ao1 = some ⟨g, 0, none⟩ → g < w1.heap.size) := Lib.hid (fun g hg => (HOa1.out.lt g (by rw [hg]; rfl)).2)
  generalize w1.heap.size = X at *
  with_reducible refine (C2.out _).mono ?_
  rintro e w3 ⟨ao3, cap3, rfl, ho3, hb3⟩
  have HRa3 := Lib.hid (HRa2.out.below hb3)
  have HOa3 := Lib.hid (ownP_below HOa2.out hb3)
  have HB3 := Lib.hid (below_step HB2.out hb3)
  clear hb3
  have HOb3 := Lib.hid ho3
  clear ho3
  go_wp2_with (refine wpList_store_hid rfl 24 _ _ rfl w3.heap.size _ rfl rfl 24 bz (rowIn_new bz 24 w3) ?_ rfl (btC_one h0 f0 ao3 L.length cap3) ?_; kernel_rfl; intro w4 hr hbel hoth hsz; have hb := hbel w3.heap.size w3 (Nat.le_refl _) ((Below.refl _ _).alloc (Nat.le_refl _) _); have HRa4 := Lib.hid (HRa3.out.below hb); have HOa4 := Lib.hid (ownP_below HOa3.out hb); have HOb4 := Lib.hid (ownP_below HOb3.out hb); have HB4 := Lib.hid (below_step HB3.out hb); have HRb4 := Lib.hid (show RowIn #[.int .i64 h0, .int .i64 f0, .slice ao3 L.length cap3] 24 w4 w3.heap.size from hr); clear hr hbel hoth hsz hb)
  have hx3 := HRb4.out.lt
  have hx13 := HRa3.out.lt
  generalize w3.heap.size = Y at *
  with_reducible refine (C3.out _).mono ?_
  rintro e w5 ⟨rfl, hb5⟩
  have HRa5 := Lib.hid (HRa4.out.below hb5)
  have HRb5 := Lib.hid (HRb4.out.below hb5)
  have HOa5 := Lib.hid (ownP_below HOa4.out hb5)
  have HOb5 := Lib.hid (ownP_below HOb4.out hb5)
  have HB5 := Lib.hid (below_step HB4.out hb5)
  clear hb5
  go_wp2_with (refine wpList_store_hid rfl 26 _ _ rfl w5.heap.size _ rfl rfl 26 (akC ak0) (rowIn_new (akC ak0) 26 w5) ?_ rfl (akC_one ax) ?_; kernel_rfl; intro w6 hr hbel hoth hsz; have hb := hbel w5.heap.size w5 (Nat.le_refl _) ((Below.refl _ _).alloc (Nat.le_refl _) _); have HRa6 := Lib.hid (HRa5.out.below hb); have HRb6 := Lib.hid (HRb5.out.below hb); have HOa6 := Lib.hid (ownP_below HOa5.out hb); have HOb6 := Lib.hid (ownP_below HOb5.out hb); have HB6 := Lib.hid (below_step HB5.out hb); have HK6 := Lib.hid (show RowIn (akC ax) 26 w6 w5.heap.size from hr); clear hr hbel hoth hsz hb)
  have hx5 := HK6.out.lt
  generalize w5.heap.size = U at *
  with_reducible refine (C4.out _).mono ?_
  rintro e w7 ⟨rfl, hb7⟩
  have HRa7 := Lib.hid (HRa6.out.below hb7)
  have HRb7 := Lib.hid (HRb6.out.below hb7)
  have HK7 := Lib.hid (HK6.out.below hb7)
  have HOa7 := Lib.hid (ownP_below HOa6.out hb7)
  have HOb7 := Lib.hid (ownP_below HOb6.out hb7)
  have HB7 := Lib.hid (below_step HB6.out hb7)
  clear hb7
  have HV := Lib.hid (rfl : w7.heap.size = w7.heap.size)
  clear HV
  go_wp2_with (first | (refine wpList_store_hid rfl 26 _ _ rfl w7.heap.size _ rfl rfl 26 (akC ak0) (rowIn_new (akC ak0) 26 w7) ?_ rfl (akC_one ax) ?_; kernel_rfl; intro w8 hr hbel hoth hsz; have hb := hbel w7.heap.size w7 (Nat.le_refl _) ((Below.refl _ _).alloc (Nat.le_refl _) _); have HRa8 := Lib.hid (HRa7.out.below hb); have HRb8 := Lib.hid (HRb7.out.below hb); have HK8 := Lib.hid (HK7.out.below hb); have HOa8 := Lib.hid (ownP_below HOa7.out hb); have HOb8 := Lib.hid (ownP_below HOb7.out hb); have HB8 := Lib.hid (below_step HB7.out hb); have HJ8 := Lib.hid (show RowIn (akC ax) 26 w8 w7.heap.size from hr); have r0 : w8.cell? ⟨X, 0, none⟩ = some (.int .i64 h0) := HRa8.out.cell 0; have r1 : w8.cell? ⟨X, 1, none⟩ = some (.int .i64 f0) := HRa8.out.cell 1; have r2 : w8.cell? ⟨X, 2, none⟩ = some (.slice ao1 L.length cap1) := HRa8.out.cell 2; have s0 : w8.cell? ⟨Y, 0, none⟩ = some (.int .i64 h0) := HRb8.out.cell 0; have s1 : w8.cell? ⟨Y, 1, none⟩ = some (.int .i64 f0) := HRb8.out.cell 1; have s2 : w8.cell? ⟨Y, 2, none⟩ = some (.slice ao3 L.length cap3) := HRb8.out.cell 2; have q0 : w8.cell? ⟨U, 0, none⟩ = some (.int .i64 ax.host) := HK8.out.cell 0; have q1 : w8.cell? ⟨U, 1, none⟩ = some (.int .i64 ax.first) := HK8.out.cell 1; have q2 : w8.cell? ⟨U, 2, none⟩ = some (.int .i64 ax.next) := HK8.out.cell 2; have p0 : w8.cell? ⟨w7.heap.size, 0, none⟩ = some (.int .i64 ax.host) := HJ8.out.cell 0; have p1 : w8.cell? ⟨w7.heap.size, 1, none⟩ = some (.int .i64 ax.first) := HJ8.out.cell 1; have p2 : w8.cell? ⟨w7.heap.size, 2, none⟩ = some (.int .i64 ax.next) := HJ8.out.cell 2; clear hr hbel hoth hsz hb) | (go_at_call 14; have _t := HB8; clear _t; refine (C8.out _ _ _ _ _ (spsAt_own HOa8.out rfl) (spsAt_own HOb8.out rfl)).mono ?_; rintro e w9 ⟨rfl, hb9⟩; have HRa9 := Lib.hid (HRa8.out.below hb9); have HRb9 := Lib.hid (HRb8.out.below hb9); have HK9 := Lib.hid (HK8.out.below hb9); have HJ9 := Lib.hid (HJ8.out.below hb9); have HOa9 := Lib.hid (ownP_below HOa8.out hb9); have HOb9 := Lib.hid (ownP_below HOb8.out hb9); have HB9 := Lib.hid (below_step HB8.out hb9); clear hb9; clear r0 r1 r2 s0 s1 s2 q0 q1 q2 p0 p1 p2; have r0 : w9.cell? ⟨X, 0, none⟩ = some (.int .i64 h0) := HRa9.out.cell 0; have r1 : w9.cell? ⟨X, 1, none⟩ = some (.int .i64 f0) := HRa9.out.cell 1; have r2 : w9.cell? ⟨X, 2, none⟩ = some (.slice ao1 L.length cap1) := HRa9.out.cell 2; have s0 : w9.cell? ⟨Y, 0, none⟩ = some (.int .i64 h0) := HRb9.out.cell 0; have s1 : w9.cell? ⟨Y, 1, none⟩ = some (.int .i64 f0) := HRb9.out.cell 1; have s2 : w9.cell? ⟨Y, 2, none⟩ = some (.slice ao3 L.length cap3) := HRb9.out.cell 2; have q0 : w9.cell? ⟨U, 0, none⟩ = some (.int .i64 ax.host) := HK9.out.cell 0; have q1 : w9.cell? ⟨U, 1, none⟩ = some (.int .i64 ax.first) := HK9.out.cell 1; have q2 : w9.cell? ⟨U, 2, none⟩ = some (.int .i64 ax.next) := HK9.out.cell 2; have p0 : w9.cell? ⟨w7.heap.size, 0, none⟩ = some (.int .i64 ax.host) := HJ9.out.cell 0; have p1 : w9.cell? ⟨w7.heap.size, 1, none⟩ = some (.int .i64 ax.first) := HJ9.out.cell 1; have p2 : w9.cell? ⟨w7.heap.size, 2, none⟩ = some (.int .i64 ax.next) := HJ9.out.cell 2))
  have HE := Lib.hid (Nat.le_refl 0)
  go_loopw [11] (fun i wr => ∃ k : Nat, k ≤ L.length ∧ i = .int .i64 k ∧ RowIn #[.int .i64 h0, .int .i64 f0, .slice ao1 L.length cap1] 24 wr X ∧ RowIn #[.int .i64 h0, .int .i64 f0, .slice ao3 L.length cap3] 24 wr Y ∧ wr.ownsRow w2.heap.size 29 8 (.slice ao3 L.length cap3) L.length (sps L) ∧ (∀ g, ao1 = some ⟨g, 0, none⟩ → RoomP (L.length * 8) 29 wr g ∧ W.heap.size ≤ g ∧ g < X) ∧ Below W.heap.size W wr) (fun i _ => L.length - (intOf i).toNat)
  case atStart => exact ⟨0, by omega, rfl, HRa9.out, HRb9.out, HOb9.out, fun g hg => by
    have h1 := roomP_own (hg ▸ HOa9.out)
    exact ⟨h1.1, h1.2.1, HGX.out g hg⟩, HB9.out⟩
  case round =>
    rename_i wr
    obtain ⟨k, hk, rfl, hRa, hRb, hOb, hG, hb⟩ := hrel
    have HRar := Lib.hid hRa
    have HRbr := Lib.hid hRb
    have HObr := Lib.hid hOb
    have HGr := Lib.hid hG
    have HBr := Lib.hid hb
    clear hRa hRb hOb hG hb r0 r1 r2 s0 s1 s2 q0 q1 q2 p0 p1 p2
    have r2 : wr.cell? ⟨X, 2, none⟩ = some (.slice ao1 L.length cap1) := HRar.out.cell 2
    by_cases hlt : k < L.length
    · have d2 : decide ((k : Int) < (L.length : Int)) = true := by simp; omega
      obtain ⟨g, hao⟩ := ownP_addr HOa9.out (by omega)
      obtain ⟨hroom, hg1, hg2⟩ := HGr.out g hao
      subst hao
      obtain ⟨v0, c0⟩ := hroom.cell (k * 8) (by omega)
      obtain ⟨v1, c1⟩ := hroom.cell (k * 8 + 1) (by omega)
      obtain ⟨v2, c2⟩ := hroom.cell (k * 8 + 2) (by omega)
      obtain ⟨v3, c3⟩ := hroom.cell (k * 8 + 3) (by omega)
      obtain ⟨v4, c4⟩ := hroom.cell (k * 8 + 4) (by omega)
      obtain ⟨v5, c5⟩ := hroom.cell (k * 8 + 5) (by omega)
      obtain ⟨v6, c6⟩ := hroom.cell (k * 8 + 6) (by omega)
      obtain ⟨v7, c7⟩ := hroom.cell (k * 8 + 7) (by omega)
      have n0 := hroom.free (k * 8)
      have n1 := hroom.free (k * 8 + 1)
      have n2 := hroom.free (k * 8 + 2)
      have n3 := hroom.free (k * 8 + 3)
      have n4 := hroom.free (k * 8 + 4)
      have n5 := hroom.free (k * 8 + 5)
      have n6 := hroom.free (k * 8 + 6)
      have n7 := hroom.free (k * 8 + 7)
      have HRM := Lib.hid hroom
      clear hroom
      have hXg : X ≠ g := by omega
      have hYg : Y ≠ g := by omega
      have hWg : W.heap.size ≤ g := hg1
      go_wp2_with fail
      go_roundw
      case rel => exact ⟨k + 1, by omega, by go_num, ((((((((HRar.out.other hXg _ _).other hXg _ _).other hXg _ _).other hXg _ _).other hXg _ _).other hXg _ _).other hXg _ _).other hXg _ _), ((((((((HRbr.out.other hYg _ _).other hYg _ _).other hYg _ _).other hYg _ _).other hYg _ _).other hYg _ _).other hYg _ _).other hYg _ _), (ownP_set (ownP_set (ownP_set (ownP_set (ownP_set (ownP_set (ownP_set (ownP_set HObr.out (by omega) _ _) (by omega) _ _) (by omega) _ _) (by omega) _ _) (by omega) _ _) (by omega) _ _) (by omega) _ _) (by omega) _ _), fun g' hg' => by
        cases hg'
        exact ⟨((((((((HRM.out.set _ _).set _ _).set _ _).set _ _).set _ _).set _ _).set _ _).set _ _), hg1, hg2⟩, ((((((((HBr.out.setCell (p := ⟨g, _, none⟩) hWg _).setCell (p := ⟨g, _, none⟩) hWg _).setCell (p := ⟨g, _, none⟩) hWg _).setCell (p := ⟨g, _, none⟩) hWg _).setCell (p := ⟨g, _, none⟩) hWg _).setCell (p := ⟨g, _, none⟩) hWg _).setCell (p := ⟨g, _, none⟩) hWg _).setCell (p := ⟨g, _, none⟩) hWg _)⟩
      case measure => simp [intOf]; omega
    · obtain rfl : k = L.length := by omega
      have d2 : decide ((L.length : Int) < (L.length : Int)) = false := by simp
      go_wp2_with fail
      with_reducible refine (C1.out _).mono ?_
      rintro e wA ⟨aoA, capA, rfl, hoA, hbA⟩
      have HRbA := Lib.hid (HRbr.out.below hbA)
      have HObA := Lib.hid (ownP_below HObr.out hbA)
      have HOaA := Lib.hid hoA
      have HBA := Lib.hid (below_step HBr.out hbA)
      clear hbA hoA r2
      go_wp2_with (first | (refine wpList_store_hid rfl 24 _ _ rfl wA.heap.size _ rfl rfl 24 bz (rowIn_new bz 24 wA) ?_ rfl (btC_one h0 f0 aoA L.length capA) ?_; kernel_rfl; intro wC hr hbel hoth hsz; have hb := hbel wA.heap.size wA (Nat.le_refl _) ((Below.refl _ _).alloc (Nat.le_refl _) _); have HRbC := Lib.hid (HRbA.out.below hb); have HObC := Lib.hid (ownP_below HObA.out hb); have HOaC := Lib.hid (ownP_below HOaA.out hb); have HBC := Lib.hid (below_step HBA.out hb); have HZC := Lib.hid (show RowIn #[.int .i64 h0, .int .i64 f0, .slice aoA L.length capA] 24 wC wA.heap.size from hr); have z0 : wC.cell? ⟨wA.heap.size, 0, none⟩ = some (.int .i64 h0) := HZC.out.cell 0; have z1 : wC.cell? ⟨wA.heap.size, 1, none⟩ = some (.int .i64 f0) := HZC.out.cell 1; have z2 : wC.cell? ⟨wA.heap.size, 2, none⟩ = some (.slice aoA L.length capA) := HZC.out.cell 2; have s0 : wC.cell? ⟨Y, 0, none⟩ = some (.int .i64 h0) := HRbC.out.cell 0; have s1 : wC.cell? ⟨Y, 1, none⟩ = some (.int .i64 f0) := HRbC.out.cell 1; have s2 : wC.cell? ⟨Y, 2, none⟩ = some (.slice ao3 L.length cap3) := HRbC.out.cell 2; clear hr hbel hoth hsz hb) | (go_at_call 14; have _t := HBC; clear _t; refine (C8.out _ _ _ _ _ (spsAt_own HOaC.out rfl) (spsAt_own HObC.out rfl)).mono ?_; rintro e wE ⟨rfl, hbE⟩; have HBE := Lib.hid (below_step HBC.out hbE); clear hbE) | (go_at_call 15; refine (does12 _).mono ?_; rintro e wD ⟨rfl, hbD⟩))
      go_ret
      exact ⟨rfl, below_step HBE.out hbD⟩

theorem M.decB_eight_le {l : List UInt8} {b : M.Bt} (h : M.decB l = some b) : b.sps.length ≤ 8 := by
  have h1 := (M.encB_dec h).2
  unfold M.bOk at h1
  simp only [Bool.and_eq_true] at h1
  exact (M.bMay_true.1 h1.1).2.2.2.1
theorem postsDecode_calls (s : List UInt8) (hs : s.length ≤ 140737488351232) (W : World) :
    Calls Try.prog 4 #[.string (S s)] W fun e w' => e = .returned (.bool true) ∧ Below W.heap.size W w' := by
  by_cases h : s.length ≤ 3000
  · cases hr : M.decB s with
    | none => exact pdec_none s h hr W
    | some b => exact pdec_some s h hr (M.decB_eight_le hr) W
  · exact pdec_long s (by omega) W

end Go.Proofs.Ytblgfhljaafmhaa
