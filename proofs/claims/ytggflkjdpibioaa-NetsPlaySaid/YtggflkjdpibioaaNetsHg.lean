/- Layer 7: NetsPlay. -/
import Derived.Test.YtggflkjdpibioaaNetsHf
import Derived.Test.YtggflkjdpibioaaNetsL4
import Derived.Deep.RegionHeld
namespace Go.Proofs.Ytggflkjdpibioaa
set_option linter.unusedVariables false
open Go Go.RowKit

/-- A net, and the document's, side by side. -/
structure Np (w0 : World) (b base r : Nat) (L1 L2 : List Ml) (W : World) : Prop where
  net : NetIn W b L1
  ref : RefIn W base r L2
  bel : Below w0.heap.size w0 W
  bb : b < base
  bn : b ≠ r
  wb : w0.heap.size ≤ b
  wr : w0.heap.size ≤ r
  wB : w0.heap.size ≤ base
section
variable {w0 W W' : World} {b base r : Nat} {L1 L2 : List Ml}
theorem Np.below (h : Np w0 b base r L1 L2 W) (hb : Below W.heap.size W W') : Np w0 b base r L1 L2 W' := ⟨h.net.below hb, h.ref.below hb, below_step h.bel hb, h.bb, h.bn, h.wb, h.wr, h.wB⟩
theorem Np.drew (h : Np w0 b base r L1 L2 W) : Np w0 b base r L1 L2 W.drew := h.below (Below.refl _ _).drew
theorem Np.doneC (h : Np w0 b base r L1 L2 W) (x : Ac) (hx : x.ok) : Calls Try.prog 11 #[.pointer (some ⟨b, 0, none⟩), acV x] W fun e w' => e = .returned (.tuple #[mlV (dM L1 x), .bool (dB L1 x)]) ∧ Np w0 b base r (dL L1 x) L2 w' := by
  refine (done_any h.net x hx).mono ?_
  rintro e w' ⟨he, hN, hO⟩
  refine ⟨he, hN, h.ref.only hO (Ne.symm h.bn) h.bb, h.bel.trans ⟨hO.os, hO.tape, hO.output, hO.size, fun k hk => hO.block k (Nat.lt_of_lt_of_le hk h.bel.size) (by have := h.wb; omega)⟩, h.bb, h.bn, h.wb, h.wr, h.wB⟩
theorem Np.saidC (h : Np w0 b base r L1 L2 W) (x : Ac) (hx : x.ok) (hl : L2.length ≤ 64) : Calls Try.prog 12 #[.pointer (some ⟨r, 0, none⟩), acV x] W fun e w' => e = .returned (.tuple #[mlV (dM L2 x), .bool (dB L2 x)]) ∧ Np w0 b base r L1 (dL L2 x) w' ∧ KeepQ r W w' := by
  refine (said_any h.ref x hx hl).mono ?_
  rintro e w' ⟨he, hN, hA, hK⟩
  refine ⟨he, ⟨h.net.away hA h.bb h.bn, hN, h.bel.trans ⟨hA.os, hA.tape, hA.output, hA.size, fun k hk => hA.block k (by have := h.wB; omega) (by have := h.wr; omega)⟩, h.bb, h.bn, h.wb, h.wr, h.wB⟩, hK⟩
theorem Np.row (h : Np w0 b base r L1 L2 W) : ∃ ao cap Ty, BlkIn #[.slice ao L2.length cap] Ty W r ∧ MlRow W (.slice ao L2.length cap) L2 := by
  obtain ⟨v, Ty, h1, h2, _, _⟩ := h.ref
  obtain ⟨ao, cap, rfl, _, hr, _⟩ := own_parts h2
  exact ⟨ao, cap, Ty, h1, hr⟩
end
/-- Cells that may be written. -/
def RoomM (N : Nat) (w : World) (g : Nat) : Prop := ∃ C Ty, BlkIn C Ty w g ∧ N ≤ C.size
theorem RoomM.set {N : Nat} {w : World} {g : Nat} (h : RoomM N w g) (i : Nat) (v : Value) : RoomM N (w.setCell ⟨g, i, none⟩ v) g := by
  obtain ⟨C, Ty, h1, h2⟩ := h
  exact ⟨_, Ty, h1.set i v, by simpa using h2⟩
theorem RoomM.cell {N : Nat} {w : World} {g : Nat} (h : RoomM N w g) (i : Nat) (hi : i < N) : ∃ v, w.cell? ⟨g, i, none⟩ = some v := by
  obtain ⟨C, Ty, h1, h2⟩ := h
  exact ⟨_, (h1.cell i).trans (Array.getElem?_eq_getElem (by omega))⟩
theorem RoomM.free {N : Nat} {w : World} {g : Nat} (h : RoomM N w g) (i : Nat) : w.frozen? ⟨g, i, none⟩ = false := by
  obtain ⟨C, Ty, h1, h2⟩ := h
  exact h1.free i
theorem roomM_own {B : Nat} {w : World} {g o n cap : Nat} {xs : List Value} (h : w.ownsRow B 31 3 (.slice (some ⟨g, o, none⟩) n cap) n xs) : RoomM (n * 3) w g ∧ B ≤ g := by
  rcases h.2 with ⟨e, _⟩ | ⟨g', cap', cur, e, hB, hg, hc, hm, hs, _⟩
  · cases e
  · injection e with e1 e2 e3
    injection e1 with e1
    injection e1 with e4 e5
    subst e4 e5 e3
    exact ⟨⟨cur, _, hg, by rw [hs]; exact Nat.mul_le_mul_right 3 hc⟩, hB⟩

set_option maxHeartbeats 4000000 in
set_option maxRecDepth 100000 in
theorem netsPlay_calls (u : Value) (w : World) (hu : ∃ A, AcRow w u A) :
    Calls Try.prog 3 #[u] w fun e w' => e = .returned (.bool true) ∧ Below w.heap.size w w' := by
  obtain ⟨A, hA⟩ := hu
  obtain ⟨ao, cap, rfl, hm, hok, hrow⟩ := id hA
  have C0 := Lib.hid (great7_any hA)
  unfold maxLen at hm
  have HR := Lib.hid hrow
  have HOK := Lib.hid hok
  have CD := Lib.hid (fun V => does7 V)
  clear hrow hok hA
  go_enter Try.func3, Try.ntmps3
  go_wp2_with fail
  with_reducible refine (C0.out).mono ?_
  rintro e w0 ⟨rfl | ⟨rfl, hbd⟩, rfl⟩
  · go_wp2_with fail
    go_ret
    exact ⟨rfl, Below.refl _ _⟩
  clear hbd C0
  go_wp2_with fail
  with_reducible refine (netNew_any w).mono ?_
  rintro e w1 ⟨rfl, hN0, hb1⟩
  have hp : Np w w.heap.size (w1.heap.size + 1) w1.heap.size [] [] (w1.alloc (.cells #[.slice none 0 0] 29)) := by
    have hlt := hN0.lt
    refine ⟨hN0.more _, ⟨.slice none 0 0, 29, heap_alloc_new w1 _, World.ownsRow_nil _ _ _ _, by omega, by rw [sz_alloc]; exact Nat.le_refl _⟩, hb1.alloc hb1.size _, by have := hb1.size; omega, by omega, Nat.le_refl _, hb1.size, by have := hb1.size; omega⟩
  obtain ⟨b, hb⟩ : ∃ x, x = w.heap.size := ⟨_, rfl⟩
  obtain ⟨r, hr⟩ : ∃ x, x = w1.heap.size := ⟨_, rfl⟩
  have HP := Lib.hid (show Np w b (r + 1) r [] [] (w1.alloc (.cells #[.slice none 0 0] 29)) from by rw [hb, hr]; exact hp)
  obtain ⟨base, hbase⟩ : ∃ x, x = r + 1 := ⟨_, rfl⟩
  rw [← hbase] at HP
  clear hp hN0 hb1 hbase
  go_wp2_with fail
  rw [← hr, ← hb]
  clear hr hb
  go_loopw [5] (fun v5 wr => ∃ (k : Nat) (L : List Ml), k ≤ A.length ∧ v5 = .int .i64 k ∧ Hid (Np w b base r L L wr)) (fun v _ => A.length - (intOf v).toNat)
  case atStart => exact ⟨0, [], Nat.zero_le _, rfl, HP⟩
  case round =>
    clear HP
    obtain ⟨k, L, hk, rfl, HP⟩ := hrel
    have h64 := HP.out.net.le
    by_cases hlt : k < A.length
    · have d2 : decide ((k : Int) < (A.length : Int)) = true := by simp; omega
      have d3 : decide (k < A.length) = true := by simp; omega
      have hki : (k : Int) < (A.length : Int) := by omega
      obtain ⟨g, off, rfl, hgw, hx⟩ := rows_at HR.out hlt
      have hmem : A.getD k ac0 ∈ A := by simp only [List.getD, List.getElem?_eq_getElem hlt, Option.getD_some]; exact List.getElem_mem _
      have HXO := Lib.hid (HOK.out _ hmem)
      have HXX := Lib.hid hx
      clear hx hmem
      generalize hxx : A.getD k ac0 = x at *
      clear hxx
      obtain ⟨xk, xm, xi⟩ := x
      simp only at HXX
      obtain ⟨x0, x1, x2, x3, x4⟩ := HXX.out wr HP.out.bel
      have C1 := Lib.hid (HP.out.doneC ⟨xk, xm, xi⟩ HXO.out)
      have C2 := Lib.hid (fun V L1 (h : Np w b base r L1 L V) => h.saidC ⟨xk, xm, xi⟩ HXO.out h64)
      generalize dL L ⟨xk, xm, xi⟩ = L' at *
      generalize dM L ⟨xk, xm, xi⟩ = m at *
      generalize dB L ⟨xk, xm, xi⟩ = ok at *
      unfold acV at C1 C2
      simp only at C1 C2
      go_wp2_with fail
      with_reducible refine (C1.out).mono ?_
      rintro e w5 ⟨rfl, hp⟩
      obtain ⟨q, hq, hql⟩ := refIn_q hp.ref
      have hal := (Below.refl w5.heap.size w5).alloc (Nat.le_refl _) (.cells #[.int .i64 m.src, .int .i64 m.dst, .string (S m.dat)] 31)
      have HP5 := Lib.hid (hp.below hal)
      have HY := Lib.hid (show BlkIn #[.int .i64 m.src, .int .i64 m.dst, .string (S m.dat)] 31 (w5.alloc (.cells #[.int .i64 m.src, .int .i64 m.dst, .string (S m.dat)] 31)) w5.heap.size from heap_alloc_new _ _)
      have HQ := Lib.hid (show ∃ q, QOf (w5.alloc (.cells #[.int .i64 m.src, .int .i64 m.dst, .string (S m.dat)] 31)) r q ∧ q ≠ some w5.heap.size from ⟨q, qOf_below hq hal, fun e => absurd (hql _ e) (Nat.lt_irrefl _)⟩)
      have HYr := Lib.hid (show w5.heap.size ≠ r from by have := hp.ref; obtain ⟨_, _, _, _, h1, h2⟩ := this; omega)
      clear hp hq hql hal C1 HP x0 x1 x2 x3 x4
      obtain ⟨x0, x1, x2, x3, x4⟩ := HXX.out _ HP5.out.bel
      go_wp2_with fail
      obtain ⟨p5, hp5⟩ : ∃ y, y = w5.heap.size := ⟨_, rfl⟩
      obtain ⟨w6, hw6⟩ : ∃ y, y = w5.alloc (.cells #[.int .i64 m.src, .int .i64 m.dst, .string (S m.dat)] 31) := ⟨_, rfl⟩
      rw [← hw6] at HP5 HY HQ ⊢
      rw [← hp5] at HY HQ HYr ⊢
      clear hw6 hp5 x0 x1 x2 x3 x4
      with_reducible refine (C2.out _ _ HP5.out).mono ?_
      rintro e w7 ⟨rfl, hp, hK⟩
      have hu := keepQ_use hK HQ.out HY.out HYr.out
      have hal := (Below.refl w7.heap.size w7).alloc (Nat.le_refl _) (.cells #[.int .i64 m.src, .int .i64 m.dst, .string (S m.dat)] 31)
      have HP7 := Lib.hid (hp.below hal)
      have HY7 := Lib.hid (hu.1.below hal)
      have HZ := Lib.hid (show BlkIn #[.int .i64 m.src, .int .i64 m.dst, .string (S m.dat)] 31 (w7.alloc (.cells #[.int .i64 m.src, .int .i64 m.dst, .string (S m.dat)] 31)) w7.heap.size from heap_alloc_new _ _)
      clear hp hK hu hal C2 HP5 HY HQ
      have hl64 := HP7.out.net.le
      go_wp2_with fail
      obtain ⟨p7, hp7⟩ : ∃ y, y = w7.heap.size := ⟨_, rfl⟩
      obtain ⟨w8, hw8⟩ : ∃ y, y = w7.alloc (.cells #[.int .i64 m.src, .int .i64 m.dst, .string (S m.dat)] 31) := ⟨_, rfl⟩
      rw [← hw8] at HP7 HY7 HZ ⊢
      rw [← hp7] at HZ ⊢
      clear hw8 hp7
      obtain ⟨aR, cR, TyR, hRr, hRm⟩ := HP7.out.row
      have HRr := Lib.hid hRr
      have HRm := Lib.hid hRm
      clear hRr hRm
      have HB8 := Lib.hid (Below.refl w8.heap.size w8)
      refine wp_region_held_drew (S := fun V => V.cell? ⟨p5, 0, none⟩ = some (.int .i64 m.src) ∧ V.cell? ⟨p5, 1, none⟩ = some (.int .i64 m.dst) ∧ V.cell? ⟨p5, 2, none⟩ = some (.string (S m.dat)) ∧ V.cell? ⟨p7, 0, none⟩ = some (.int .i64 m.src) ∧ V.cell? ⟨p7, 1, none⟩ = some (.int .i64 m.dst) ∧ V.cell? ⟨p7, 2, none⟩ = some (.string (S m.dat)) ∧ V.cell? ⟨r, 0, none⟩ = some (.slice aR L'.length cR)) (by kernel_rfl) ?_ (fun hHeld => ?_)
      · exact ⟨(HY7.out.below HB8.out.drew).cell 0, (HY7.out.below HB8.out.drew).cell 1, (HY7.out.below HB8.out.drew).cell 2, (HZ.out.below HB8.out.drew).cell 0, (HZ.out.below HB8.out.drew).cell 1, (HZ.out.below HB8.out.drew).cell 2, (HRr.out.below HB8.out.drew).cell 0⟩
      replace HB8 := Lib.hid HB8.out.drew
      obtain ⟨wd, hwd⟩ : ∃ y, y = World.drew w8 := ⟨_, rfl⟩
      rw [← hwd] at HB8 hHeld ⊢
      clear hwd
      refine wpAnyH_take (i := 0) (oi := { dst := some 41, op := Op.load 31 (Operand.tmp 6), type := 31, pos := "law.go:90", after := #[], guard := none }) (v := ?_) rfl (by kernel_rfl) (by kernel_rfl) (by kernel_rfl) (fun _ _ _ h => h) (Or.inl ⟨by rfl, ?_⟩) (by assumption) ?_
      rotate_left
      · (intro w hSw; (try dsimp only at hSw); go_simp); (first | done | with_reducible rfl)
      try simp only [Act.put, List.setIfInBounds_toArray, List.set_cons_zero, List.set_cons_succ]
      refine wpAnyH_take (i := 1) (oi := { dst := some 42, op := Op.load 31 (Operand.tmp 8), type := 31, pos := "law.go:90", after := #[], guard := none }) (v := ?_) rfl (by kernel_rfl) (by kernel_rfl) (by kernel_rfl) (fun _ _ _ h => h) (Or.inl ⟨by rfl, ?_⟩) (by assumption) ?_
      rotate_left
      · (intro w hSw; (try dsimp only at hSw); go_simp); (first | done | with_reducible rfl)
      try simp only [Act.put, List.setIfInBounds_toArray, List.set_cons_zero, List.set_cons_succ]
      refine wpAnyH_take (i := 2) (oi := { dst := some 43, op := Op.binOp BinOp.neq 31 (Operand.tmp 41) (Operand.tmp 42) 31, type := 4, pos := "law.go:90", after := #[{ on := 0, ground := Ground.data }, { on := 1, ground := Ground.data }], guard := none }) (v := ?_) rfl (by kernel_rfl) (by kernel_rfl) (by kernel_rfl) (fun _ _ _ h => h) (Or.inl ⟨by rfl, ?_⟩) (by assumption) ?_
      rotate_left
      · (intro w hSw; (try dsimp only at hSw); go_simp); (first | done | with_reducible rfl)
      try simp only [Act.put, List.setIfInBounds_toArray, List.set_cons_zero, List.set_cons_succ]
      refine wpAnyH_take (i := 3) (oi := { dst := some 44, op := Op.move (Operand.tmp 43), type := 4, pos := "law.go:90", after := #[{ on := 2, ground := Ground.data }], guard := none }) (v := ?_) rfl (by kernel_rfl) (by kernel_rfl) (by kernel_rfl) (fun _ _ _ h => h) (Or.inl ⟨by rfl, ?_⟩) (by assumption) ?_
      rotate_left
      · (intro w hSw; (try dsimp only at hSw); go_simp); (first | done | with_reducible rfl)
      try simp only [Act.put, List.setIfInBounds_toArray, List.set_cons_zero, List.set_cons_succ]
      refine wpAnyH_take (i := 4) (oi := { dst := some 45, op := Op.move (Operand.tmp 7), type := 4, pos := "law.go:90", after := #[{ on := 3, ground := Ground.guard }], guard := some (3, false) }) (v := ?_) rfl (by kernel_rfl) (by kernel_rfl) (by kernel_rfl) (fun _ _ _ h => h) (Or.inl ⟨by rfl, ?_⟩) (by assumption) ?_
      rotate_left
      · (intro w hSw; (try dsimp only at hSw); go_simp); (first | done | with_reducible rfl)
      try simp only [Act.put, List.setIfInBounds_toArray, List.set_cons_zero, List.set_cons_succ]
      refine wpAnyH_take (i := 5) (oi := { dst := some 46, op := Op.move (Operand.tmp 9), type := 4, pos := "law.go:90", after := #[{ on := 3, ground := Ground.guard }], guard := some (3, false) }) (v := ?_) rfl (by kernel_rfl) (by kernel_rfl) (by kernel_rfl) (fun _ _ _ h => h) (Or.inl ⟨by rfl, ?_⟩) (by assumption) ?_
      rotate_left
      · (intro w hSw; (try dsimp only at hSw); go_simp); (first | done | with_reducible rfl)
      try simp only [Act.put, List.setIfInBounds_toArray, List.set_cons_zero, List.set_cons_succ]
      refine wpAnyH_take (i := 6) (oi := { dst := some 47, op := Op.binOp BinOp.neq 4 (Operand.tmp 45) (Operand.tmp 46) 4, type := 4, pos := "law.go:90", after := #[{ on := 4, ground := Ground.data }, { on := 5, ground := Ground.data }, { on := 3, ground := Ground.guard }], guard := some (3, false) }) (v := ?_) rfl (by kernel_rfl) (by kernel_rfl) (by kernel_rfl) (fun _ _ _ h => h) (Or.inl ⟨by rfl, ?_⟩) (by assumption) ?_
      rotate_left
      · (intro w hSw; (try dsimp only at hSw); go_simp); (first | done | with_reducible rfl)
      try simp only [Act.put, List.setIfInBounds_toArray, List.set_cons_zero, List.set_cons_succ]
      refine wpAnyH_take (i := 7) (oi := { dst := some 48, op := Op.pick (Operand.tmp 44) (Operand.const (Value.bool true)) (Operand.tmp 47), type := 4, pos := "law.go:90", after := #[{ on := 3, ground := Ground.data }, { on := 6, ground := Ground.data }], guard := none }) (v := ?_) rfl (by kernel_rfl) (by kernel_rfl) (by kernel_rfl) (fun _ _ _ h => h) (Or.inl ⟨by rfl, ?_⟩) (by assumption) ?_
      rotate_left
      · (intro w hSw; (try dsimp only at hSw); go_simp); (first | done | with_reducible rfl)
      try simp only [Act.put, List.setIfInBounds_toArray, List.set_cons_zero, List.set_cons_succ]
      refine wpAnyH_take (i := 8) (oi := { dst := some 49, op := Op.move (Operand.tmp 48), type := 4, pos := "law.go:90", after := #[{ on := 7, ground := Ground.data }, { on := 3, ground := Ground.chain }], guard := none }) (v := ?_) rfl (by kernel_rfl) (by kernel_rfl) (by kernel_rfl) (fun _ _ _ h => h) (Or.inl ⟨by rfl, ?_⟩) (by assumption) ?_
      rotate_left
      · (intro w hSw; (try dsimp only at hSw); go_simp); (first | done | with_reducible rfl)
      try simp only [Act.put, List.setIfInBounds_toArray, List.set_cons_zero, List.set_cons_succ]
      refine wpAnyH_take (i := 9) (oi := { dst := some 50, op := Op.move (Operand.tmp 3), type := 24, pos := "law.go:90", after := #[{ on := 8, ground := Ground.guard }], guard := some (8, false) }) (v := ?_) rfl (by kernel_rfl) (by kernel_rfl) (by kernel_rfl) (fun _ _ _ h => h) (Or.inl ⟨by rfl, ?_⟩) (by assumption) ?_
      rotate_left
      · (intro w hSw; (try dsimp only at hSw); go_simp); (first | done | with_reducible rfl)
      try simp only [Act.put, List.setIfInBounds_toArray, List.set_cons_zero, List.set_cons_succ]
      refine wpAnyH_take (i := 11) (oi := { dst := some 52, op := Op.move (Operand.tmp 4), type := 26, pos := "law.go:90", after := #[{ on := 8, ground := Ground.guard }], guard := some (8, false) }) (v := ?_) rfl (by kernel_rfl) (by kernel_rfl) (by kernel_rfl) (fun _ _ _ h => h) (Or.inl ⟨by rfl, ?_⟩) (by assumption) ?_
      rotate_left
      · (intro w hSw; (try dsimp only at hSw); go_simp); (first | done | with_reducible rfl)
      try simp only [Act.put, List.setIfInBounds_toArray, List.set_cons_zero, List.set_cons_succ]
      refine wpAnyH_take (i := 12) (oi := { dst := some 53, op := Op.nilCheck (Operand.tmp 52), type := 0, pos := "law.go:90", after := #[{ on := 11, ground := Ground.data }, { on := 8, ground := Ground.guard }], guard := some (8, false) }) (v := ?_) rfl (by kernel_rfl) (by kernel_rfl) (by kernel_rfl) (fun _ _ _ h => h) (Or.inl ⟨by rfl, ?_⟩) (by assumption) ?_
      rotate_left
      · (intro w hSw; (try dsimp only at hSw); go_simp); (first | done | with_reducible rfl)
      try simp only [Act.put, List.setIfInBounds_toArray, List.set_cons_zero, List.set_cons_succ]
      refine wpAnyH_take (i := 13) (oi := { dst := some 54, op := Op.fieldAddr 29 (Operand.tmp 53) 0, type := 0, pos := "law.go:90", after := #[{ on := 12, ground := Ground.data }, { on := 8, ground := Ground.guard }], guard := some (8, false) }) (v := ?_) rfl (by kernel_rfl) (by kernel_rfl) (by kernel_rfl) (fun _ _ _ h => h) (Or.inl ⟨by rfl, ?_⟩) (by assumption) ?_
      rotate_left
      · (intro w hSw; (try dsimp only at hSw); go_simp); (first | done | with_reducible rfl)
      try simp only [Act.put, List.setIfInBounds_toArray, List.set_cons_zero, List.set_cons_succ]
      refine wpAnyH_take (i := 14) (oi := { dst := some 55, op := Op.load 27 (Operand.tmp 54), type := 27, pos := "law.go:90", after := #[{ on := 13, ground := Ground.data }, { on := 8, ground := Ground.guard }], guard := some (8, false) }) (v := ?_) rfl (by kernel_rfl) (by kernel_rfl) (by kernel_rfl) (fun _ _ _ h => h) (Or.inl ⟨by rfl, ?_⟩) (by assumption) ?_
      rotate_left
      · (intro w hSw; (try dsimp only at hSw); go_simp); (first | done | with_reducible rfl)
      try simp only [Act.put, List.setIfInBounds_toArray, List.set_cons_zero, List.set_cons_succ]
      refine wpAnyH_take (i := 15) (oi := { dst := some 56, op := Op.call { callee := Callee.builtin Builtin.len, args := #[Operand.tmp 55], argTypes := #[27] }, type := 3, pos := "law.go:90", after := #[{ on := 14, ground := Ground.data }, { on := 8, ground := Ground.guard }], guard := some (8, false) }) (v := ?_) rfl (by kernel_rfl) (by kernel_rfl) (by kernel_rfl) (fun _ _ _ h => h) (Or.inl ⟨by rfl, ?_⟩) (by assumption) ?_
      rotate_left
      · (intro w hSw; (try dsimp only at hSw); go_simp); (first | done | with_reducible rfl)
      try simp only [Act.put, List.setIfInBounds_toArray, List.set_cons_zero, List.set_cons_succ]
      refine wpAnyH_ready (rs := [10]) (by kernel_rfl) (by simp) ?_
      refine AllReadyH.cons (o := { dst := some 51, op := Op.call { callee := Callee.value (Operand.func 13), args := #[Operand.tmp 50], argTypes := #[24] }, type := 3, pos := "law.go:90", after := #[{ on := 9, ground := Ground.data }, { on := 8, ground := Ground.chain }, { on := 8, ground := Ground.guard }], guard := some (8, false) }) rfl (fun K hK => ?_) (AllReadyH.nil)
      have CL := Lib.hid (netLen_any (HP7.out.below HB8.out).net)
      go_simp
      go_at_call 13
      with_reducible refine (CL.out).mono ?_
      rintro e wL ⟨rfl, rfl⟩
      clear CL
      go_wp2_with fail
      refine hK.out _ _ ?_ (fun hHeld => ?_)
      · exact ⟨(HY7.out.below HB8.out).cell 0, (HY7.out.below HB8.out).cell 1, (HY7.out.below HB8.out).cell 2, (HZ.out.below HB8.out).cell 0, (HZ.out.below HB8.out).cell 1, (HZ.out.below HB8.out).cell 2, (HRr.out.below HB8.out).cell 0⟩
      clear hK K
      try simp only [Act.put, List.setIfInBounds_toArray, List.set_cons_zero, List.set_cons_succ]
      refine wpAnyH_take (i := 16) (oi := { dst := some 57, op := Op.binOp BinOp.neq 3 (Operand.tmp 51) (Operand.tmp 56) 3, type := 4, pos := "law.go:90", after := #[{ on := 10, ground := Ground.data }, { on := 15, ground := Ground.data }, { on := 8, ground := Ground.guard }], guard := some (8, false) }) (v := ?_) rfl (by kernel_rfl) (by kernel_rfl) (by kernel_rfl) (fun _ _ _ h => h) (Or.inl ⟨by rfl, ?_⟩) (by assumption) ?_
      rotate_left
      · (intro w hSw; (try dsimp only at hSw); go_simp); (first | done | with_reducible rfl)
      try simp only [Act.put, List.setIfInBounds_toArray, List.set_cons_zero, List.set_cons_succ]
      refine wpAnyH_take (i := 17) (oi := { dst := some 58, op := Op.pick (Operand.tmp 49) (Operand.const (Value.bool true)) (Operand.tmp 57), type := 4, pos := "law.go:90", after := #[{ on := 8, ground := Ground.data }, { on := 16, ground := Ground.data }], guard := none }) (v := ?_) rfl (by kernel_rfl) (by kernel_rfl) (by kernel_rfl) (fun _ _ _ h => h) (Or.inl ⟨by rfl, ?_⟩) (by assumption) ?_
      rotate_left
      · (intro w hSw; (try dsimp only at hSw); go_simp); (first | done | with_reducible rfl)
      refine wpAnyH_done (by kernel_rfl) ?_ _
      clear hHeld
      have HP9 := Lib.hid (HP7.out.below HB8.out)
      have HRm9 := Lib.hid (HRm.out.below HB8.out)
      have HRr9 := Lib.hid (HRr.out.below HB8.out)
      clear HP7 HRm HRr HY7 HZ HB8 HYr
      have htm : Int.tmod (k : Int) 16 = ((k % 16 : Nat) : Int) := by rw [Int.tmod_eq_emod_of_nonneg (by omega)]; rfl
      by_cases hz : k % 16 = 0
      · have t0 : (((k % 16 : Nat) : Int) == 0) = true := by rw [beq_iff_eq]; omega
        have t1 : decide (((k % 16 : Nat) : Int) = 0) = true := by rw [decide_eq_true_eq]; omega
        have t2 : ((k % 16 : Nat) : Int) = 0 := by omega
        go_wp2_with fail
        have CA := Lib.hid (netAll_any HP9.out.net)
        with_reducible refine (CA.out).mono ?_
        rintro e w10 ⟨v10, rfl, hown, hb10⟩
        obtain ⟨a10, c10, rfl, hcap10, hrow10, _, _⟩ := own_parts hown
        have HO10 := Lib.hid hown
        have HB10 := Lib.hid hb10
        have hrr := HRr9.out.below hb10
        have m0 := hrr.cell 0
        have CS := Lib.hid (same_any hrow10 (HRm9.out.below hb10) (by omega))
        clear hown hb10 hrow10 CA hrr
        go_wp2_with fail
        with_reducible refine (CS.out).mono ?_
        rintro e w11 ⟨rfl, hb11⟩
        have HO11 := Lib.hid (ownsRow_below HO10.out hb11)
        have HB11 := Lib.hid (below_step HB10.out hb11)
        clear hb11 CS HO10 HB10 m0
        go_wp2_with fail
        go_loopw [11] (fun v11 wr => ∃ j : Nat, j ≤ L'.length ∧ v11 = .int .i64 j ∧ Hid (∀ g, a10 = some ⟨g, 0, none⟩ → RoomM (L'.length * 3) wr g ∧ wd.heap.size ≤ g) ∧ Hid (Below wd.heap.size wd wr)) (fun v _ => L'.length - (intOf v).toNat)
        case atStart => exact ⟨0, Nat.zero_le _, rfl, Lib.hid (fun g hg => by
          have h1 := roomM_own (hg ▸ HO11.out)
          exact ⟨h1.1, h1.2⟩), HB11⟩
        case round =>
          clear HB11
          obtain ⟨j, hj, rfl, HGr, HBr⟩ := hrel
          by_cases hjl : j < L'.length
          · have f2 : decide ((j : Int) < (L'.length : Int)) = true := by simp; omega
            have f3 : decide (j < L'.length) = true := by simp; omega
            have hji : (j : Int) < (L'.length : Int) := by omega
            obtain ⟨ag, hao⟩ : ∃ ag, a10 = some ⟨ag, 0, none⟩ := by
              obtain ⟨_, _, e, _, _, _, hs⟩ := own_parts HO11.out
              cases e
              rcases hs with ⟨_, e0⟩ | h
              · omega
              · exact h
            obtain ⟨hroom, hg1⟩ := HGr.out ag hao
            subst hao
            obtain ⟨v0, c0⟩ := hroom.cell (j * 3) (by omega)
            obtain ⟨v1, c1⟩ := hroom.cell (j * 3 + 1) (by omega)
            obtain ⟨v2, c2⟩ := hroom.cell (j * 3 + 2) (by omega)
            have n0 := hroom.free (j * 3)
            have n1 := hroom.free (j * 3 + 1)
            have n2 := hroom.free (j * 3 + 2)
            have HRM := Lib.hid hroom
            clear hroom
            go_wp2_with fail
            go_roundw
            case rel => exact ⟨j + 1, by omega, by go_num, Lib.hid (fun g' hg' => by
              cases hg'
              exact ⟨((HRM.out.set _ _).set _ _).set _ _, hg1⟩), Lib.hid (((HBr.out.setCell (p := ⟨ag, _, none⟩) hg1 _).setCell (p := ⟨ag, _, none⟩) hg1 _).setCell (p := ⟨ag, _, none⟩) hg1 _)⟩
            case measure => simp [intOf]; omega
          · obtain rfl : j = L'.length := by omega
            have f2 : decide ((L'.length : Int) < (L'.length : Int)) = false := by simp
            have f3 : decide (L'.length < L'.length) = false := by simp
            have HPn := Lib.hid (HP9.out.below HBr.out)
            clear HGr HBr HO11 HP9 HRm9 HRr9
            go_wp2_with fail
            go_roundw
            case rel => exact ⟨k + 1, L', by omega, by go_num, HPn⟩
            case measure => simp [intOf]; omega
      · have t0 : (((k % 16 : Nat) : Int) == 0) = false := by rw [beq_eq_false_iff_ne]; omega
        have t1 : decide (((k % 16 : Nat) : Int) = 0) = false := by rw [decide_eq_false_iff_not]; omega
        clear HRm9 HRr9
        go_wp2_with fail
        go_roundw
        case rel => exact ⟨k + 1, L', by omega, by go_num, HP9⟩
        case measure => simp [intOf]; omega
    · obtain rfl : k = A.length := by omega
      have d2 : decide ((A.length : Int) < (A.length : Int)) = false := by simp
      have d3 : decide (A.length < A.length) = false := by simp
      obtain ⟨aR, cR, TyR, hRr, hRm⟩ := HP.out.row
      have HRr := Lib.hid hRr
      have HRm := Lib.hid hRm
      clear hRr hRm
      go_wp2_with fail
      have HB8 := Lib.hid (Below.refl wr.heap.size wr)
      refine wp_region_held_drew (S := fun V => V.cell? ⟨r, 0, none⟩ = some (.slice aR L.length cR)) (by kernel_rfl) ?_ (fun hHeld => ?_)
      · exact (HRr.out.below HB8.out.drew).cell 0
      replace HB8 := Lib.hid HB8.out.drew
      obtain ⟨wd, hwd⟩ : ∃ y, y = World.drew wr := ⟨_, rfl⟩
      rw [← hwd] at HB8 hHeld ⊢
      clear hwd
      refine wpAnyH_take (i := 0) (oi := { dst := some 81, op := Op.move (Operand.tmp 3), type := 24, pos := "law.go:104", after := #[], guard := none }) (v := ?_) rfl (by kernel_rfl) (by kernel_rfl) (by kernel_rfl) (fun _ _ _ h => h) (Or.inl ⟨by rfl, ?_⟩) (by assumption) ?_
      rotate_left
      · (intro w hSw; (try dsimp only at hSw); go_simp); (first | done | with_reducible rfl)
      try simp only [Act.put, List.setIfInBounds_toArray, List.set_cons_zero, List.set_cons_succ]
      refine wpAnyH_take (i := 2) (oi := { dst := some 83, op := Op.move (Operand.tmp 4), type := 26, pos := "law.go:104", after := #[], guard := none }) (v := ?_) rfl (by kernel_rfl) (by kernel_rfl) (by kernel_rfl) (fun _ _ _ h => h) (Or.inl ⟨by rfl, ?_⟩) (by assumption) ?_
      rotate_left
      · (intro w hSw; (try dsimp only at hSw); go_simp); (first | done | with_reducible rfl)
      try simp only [Act.put, List.setIfInBounds_toArray, List.set_cons_zero, List.set_cons_succ]
      refine wpAnyH_take (i := 3) (oi := { dst := some 84, op := Op.nilCheck (Operand.tmp 83), type := 0, pos := "law.go:104", after := #[{ on := 2, ground := Ground.data }], guard := none }) (v := ?_) rfl (by kernel_rfl) (by kernel_rfl) (by kernel_rfl) (fun _ _ _ h => h) (Or.inl ⟨by rfl, ?_⟩) (by assumption) ?_
      rotate_left
      · (intro w hSw; (try dsimp only at hSw); go_simp); (first | done | with_reducible rfl)
      try simp only [Act.put, List.setIfInBounds_toArray, List.set_cons_zero, List.set_cons_succ]
      refine wpAnyH_take (i := 4) (oi := { dst := some 85, op := Op.fieldAddr 29 (Operand.tmp 84) 0, type := 0, pos := "law.go:104", after := #[{ on := 3, ground := Ground.data }], guard := none }) (v := ?_) rfl (by kernel_rfl) (by kernel_rfl) (by kernel_rfl) (fun _ _ _ h => h) (Or.inl ⟨by rfl, ?_⟩) (by assumption) ?_
      rotate_left
      · (intro w hSw; (try dsimp only at hSw); go_simp); (first | done | with_reducible rfl)
      try simp only [Act.put, List.setIfInBounds_toArray, List.set_cons_zero, List.set_cons_succ]
      refine wpAnyH_take (i := 5) (oi := { dst := some 86, op := Op.load 27 (Operand.tmp 85), type := 27, pos := "law.go:104", after := #[{ on := 4, ground := Ground.data }], guard := none }) (v := ?_) rfl (by kernel_rfl) (by kernel_rfl) (by kernel_rfl) (fun _ _ _ h => h) (Or.inl ⟨by rfl, ?_⟩) (by assumption) ?_
      rotate_left
      · (intro w hSw; (try dsimp only at hSw); go_simp); (first | done | with_reducible rfl)
      try simp only [Act.put, List.setIfInBounds_toArray, List.set_cons_zero, List.set_cons_succ]
      refine wpAnyH_ready (rs := [1]) (by kernel_rfl) (by simp) ?_
      refine AllReadyH.cons (o := { dst := some 82, op := Op.call { callee := Callee.value (Operand.func 14), args := #[Operand.tmp 81], argTypes := #[24] }, type := 27, pos := "law.go:104", after := #[{ on := 0, ground := Ground.data }], guard := none }) rfl (fun K hK => ?_) (AllReadyH.nil)
      have CA := Lib.hid (netAll_any (HP.out.below HB8.out).net)
      go_simp
      go_at_call 14
      with_reducible refine (CA.out).mono ?_
      rintro e w21 ⟨v21, rfl, hown, hbq⟩
      obtain ⟨a21, c21, rfl, _, hrow21, _, _⟩ := own_parts hown
      replace HB8 := Lib.hid (below_step HB8.out hbq)
      have HR21 := Lib.hid hrow21
      clear hown hrow21 hbq CA
      go_wp2_with fail
      refine hK.out _ _ ?_ (fun hHeld => ?_)
      · exact (HRr.out.below HB8.out).cell 0
      clear hK K
      try simp only [Act.put, List.setIfInBounds_toArray, List.set_cons_zero, List.set_cons_succ]
      refine wpAnyH_ready (rs := [6]) (by kernel_rfl) (by simp) ?_
      refine AllReadyH.cons (o := { dst := some 87, op := Op.call { callee := Callee.value (Operand.func 15), args := #[Operand.tmp 82, Operand.tmp 86], argTypes := #[27, 27] }, type := 4, pos := "law.go:104", after := #[{ on := 1, ground := Ground.data }, { on := 5, ground := Ground.data }, { on := 1, ground := Ground.chain }], guard := none }) rfl (fun K hK => ?_) (AllReadyH.nil)
      have CS := Lib.hid (same_any HR21.out (HRm.out.below HB8.out) (by omega))
      go_simp
      go_at_call 15
      with_reducible refine (CS.out).mono ?_
      rintro e w22 ⟨rfl, hbq⟩
      replace HB8 := Lib.hid (below_step HB8.out hbq)
      clear hbq CS
      go_wp2_with fail
      refine hK.out _ _ ?_ (fun hHeld => ?_)
      · exact (HRr.out.below HB8.out).cell 0
      clear hK K
      try simp only [Act.put, List.setIfInBounds_toArray, List.set_cons_zero, List.set_cons_succ]
      refine wpAnyH_take (i := 7) (oi := { dst := some 88, op := Op.move (Operand.tmp 87), type := 4, pos := "law.go:104", after := #[{ on := 6, ground := Ground.data }, { on := 6, ground := Ground.chain }], guard := none }) (v := ?_) rfl (by kernel_rfl) (by kernel_rfl) (by kernel_rfl) (fun _ _ _ h => h) (Or.inl ⟨by rfl, ?_⟩) (by assumption) ?_
      rotate_left
      · (intro w hSw; (try dsimp only at hSw); go_simp); (first | done | with_reducible rfl)
      try simp only [Act.put, List.setIfInBounds_toArray, List.set_cons_zero, List.set_cons_succ]
      refine wpAnyH_ready (rs := [8]) (by kernel_rfl) (by simp) ?_
      refine AllReadyH.cons (o := { dst := some 89, op := Op.call { callee := Callee.value (Operand.func 16), args := #[], argTypes := #[] }, type := 4, pos := "law.go:104", after := #[{ on := 7, ground := Ground.chain }, { on := 7, ground := Ground.guard }], guard := some (7, true) }) rfl (fun K hK => ?_) (AllReadyH.nil)
      go_simp
      go_at_call 16
      with_reducible refine (CD.out _).mono ?_
      rintro e w23 ⟨rfl, hbq⟩
      replace HB8 := Lib.hid (below_step HB8.out hbq)
      clear hbq
      go_wp2_with fail
      refine hK.out _ _ ?_ (fun hHeld => ?_)
      · exact (HRr.out.below HB8.out).cell 0
      clear hK K
      try simp only [Act.put, List.setIfInBounds_toArray, List.set_cons_zero, List.set_cons_succ]
      refine wpAnyH_take (i := 9) (oi := { dst := some 90, op := Op.pick (Operand.tmp 88) (Operand.tmp 89) (Operand.const (Value.bool false)), type := 4, pos := "law.go:104", after := #[{ on := 7, ground := Ground.data }, { on := 8, ground := Ground.data }], guard := none }) (v := ?_) rfl (by kernel_rfl) (by kernel_rfl) (by kernel_rfl) (fun _ _ _ h => h) (Or.inl ⟨by rfl, ?_⟩) (by assumption) ?_
      rotate_left
      · (intro w hSw; (try dsimp only at hSw); go_simp); (first | done | with_reducible rfl)
      try simp only [Act.put, List.setIfInBounds_toArray, List.set_cons_zero, List.set_cons_succ]
      refine wpAnyH_take (i := 10) (oi := { dst := some 2, op := Op.assign (Operand.tmp 90), type := 4, pos := "law.go:104", after := #[{ on := 9, ground := Ground.data }, { on := 8, ground := Ground.chain }, { on := 0, ground := Ground.phase }, { on := 1, ground := Ground.phase }, { on := 2, ground := Ground.phase }, { on := 3, ground := Ground.phase }, { on := 4, ground := Ground.phase }, { on := 5, ground := Ground.phase }, { on := 6, ground := Ground.phase }, { on := 7, ground := Ground.phase }, { on := 8, ground := Ground.phase }, { on := 9, ground := Ground.phase }], guard := none }) (v := ?_) rfl (by kernel_rfl) (by kernel_rfl) (by kernel_rfl) (fun _ _ _ h => h) (Or.inl ⟨by rfl, ?_⟩) (by assumption) ?_
      rotate_left
      · (intro w hSw; (try dsimp only at hSw); go_simp); (first | done | with_reducible rfl)
      refine wpAnyH_done (by kernel_rfl) ?_ _
      clear hHeld
      go_wp2_with fail
      go_ret
      exact ⟨rfl, below_step HP.out.bel HB8.out⟩

end Go.Proofs.Ytggflkjdpibioaa
