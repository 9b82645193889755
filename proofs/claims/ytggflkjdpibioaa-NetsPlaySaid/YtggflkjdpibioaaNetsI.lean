/- Layer 7: insert, by a contract. -/
import Derived.Test.YtggflkjdpibioaaNetsC
import Derived.StillTailTactics
namespace Go.Proofs.Ytggflkjdpibioaa
set_option linter.unusedVariables false
open Go Go.RowKit

abbrev mlV (m : Ml) : Value := .agg #[.int .i64 m.src, .int .i64 m.dst, .string (S m.dat)]

theorem netInsert_full {w : World} {b : Nat} {nx : Nat → Int} {ml : Nat → Ml} {n : Nat} (h : NetS w b nx ml n) (h65 : nx 65 = -1) (q : Nat) (m : Ml) :
    Calls Try.prog 30 #[.pointer (some ⟨b, 0, none⟩), .pointer (some ⟨b, q, none⟩), mlV m] w fun e w' => e = .returned (.bool false) ∧ Below w.heap.size w w' := by
  have c1 := h.nxt (p := 65) (by omega)
  rw [h65] at c1
  have c2 : ∀ o, (w.alloc o).cell? ⟨b, 257, none⟩ = some (.int .i64 (-1)) := fun o => (h.more o).nxt (p := 65) (by omega) |>.trans (by rw [h65])
  unfold mlV
  go_enter Try.func30, Try.ntmps30
  go_wp2_with fail
  go_ret
  exact ⟨rfl, (Below.refl _ _).alloc (Nat.le_refl _) _⟩

set_option maxHeartbeats 2000000 in
theorem netInsert_room {w : World} {b : Nat} {nx : Nat → Int} {ml : Nat → Ml} {n : Nat} {us ft : List Nat} {v k : Nat} (h : NetS w b nx ml n) (hs : Slots nx us (v :: ft)) (hk : k ≤ us.length) (hn : n ≤ 64) (m : Ml) :
    Calls Try.prog 30 #[.pointer (some ⟨b, 0, none⟩), .pointer (some ⟨b, cel (node 64 us k), none⟩), mlV m] w fun e w' => e = .returned (.bool true) ∧
      NetS w' b (upd (upd (upd nx 65 (nx v)) v (nx (node 64 us k))) (node 64 us k) (v : Int)) (upd ml v m) (n + 1) ∧ Only b w w' := by
  have HN := Lib.hid h
  have hp := hs.node_lt k hk
  have hv : v < 64 := hs.parts.2.2.2.2 v (by simp)
  have h65 := hs.free.1
  have hpv : node 64 us k ≠ 65 := by
    rcases node_mem 64 us k hk with q | q
    · omega
    · have := hs.parts.2.2.2.1 _ q; omega
  have hpv2 : node 64 us k ≠ v := by
    rcases node_mem 64 us k hk with q | q
    · omega
    · intro e; exact hs.parts.2.2.1 _ q (by simp [e])
  have cv : cel v = v * 4 + 3 := by unfold cel; exact if_pos hv
  have HS := Lib.hid hs
  clear hs
  generalize hcp : cel (node 64 us k) = cp
  generalize node 64 us k = p at *
  have g1 : (0 : Int) ≤ (v : Int) := by omega
  have g2 : (v : Int) < 64 := by omega
  have c1 : ∀ o, (w.alloc o).cell? ⟨b, 257, none⟩ = some (.int .i64 v) := fun o => ((h.more o).nxt (p := 65) (by omega)).trans (by rw [h65])
  have c2 : ∀ o, (w.alloc o).cell? ⟨b, v * 4 + 3, none⟩ = some (.int .i64 (nx v)) := fun o => by rw [← cv]; exact ((h.more o).nxt (p := v) (by omega))
  have hf : ∀ o j, (w.alloc o).frozen? ⟨b, j, none⟩ = false := fun o j => (h.more o).free j
  clear h
  unfold mlV
  go_enter Try.func30, Try.ntmps30
  go_wp2_with fail
  have hN1 := (HN.out.more (.cells #[.int .i64 m.src, .int .i64 m.dst, .string (S m.dat)] 31)).setNext (p := 65) (by omega) (nx v)
  rw [show cel 65 = 257 from rfl] at hN1
  have hX1 : BlkIn #[.int .i64 m.src, .int .i64 m.dst, .string (S m.dat)] 31 ((w.alloc (.cells #[.int .i64 m.src, .int .i64 m.dst, .string (S m.dat)] 31)).setCell ⟨b, 257, none⟩ (.int .i64 (nx v))) w.heap.size := BlkIn.other (heap_alloc_new w _) (by have := HN.out.lt; omega) _ _
  have hO1 : Only b w ((w.alloc (.cells #[.int .i64 m.src, .int .i64 m.dst, .string (S m.dat)] 31)).setCell ⟨b, 257, none⟩ (.int .i64 (nx v))) := ((Only.refl b w).alloc _).setCell (.inl rfl) _
  generalize ((w.alloc (.cells #[.int .i64 m.src, .int .i64 m.dst, .string (S m.dat)] 31)).setCell ⟨b, 257, none⟩ (.int .i64 (nx v))) = W1 at *
  have e1 := hN1.nxt hp
  rw [upd_ne _ _ hpv, hcp] at e1
  have x0 : W1.cell? ⟨w.heap.size, 0, none⟩ = some (.int .i64 m.src) := hX1.cell 0
  have x1 : W1.cell? ⟨w.heap.size, 1, none⟩ = some (.int .i64 m.dst) := hX1.cell 1
  have x2 : W1.cell? ⟨w.heap.size, 2, none⟩ = some (.string (S m.dat)) := hX1.cell 2
  have hf1 : ∀ j, W1.frozen? ⟨b, j, none⟩ = false := fun j => hN1.free j
  have r0 := hN1.src hv
  have r1 := hN1.dst hv
  have r2 := hN1.dat hv
  have r3 := hN1.nxt (p := v) (by omega)
  rw [cv] at r3
  have HO1 := Lib.hid hO1
  have HN1 := Lib.hid hN1
  clear hO1 hX1 hN1 c1 c2 hf
  go_region
  have hN2 := (HN1.out.setRow hv m (nx p)).drew
  have hO2 : Only b w ((((W1.setCell ⟨b, v * 4, none⟩ (.int .i64 m.src)).setCell ⟨b, v * 4 + 1, none⟩ (.int .i64 m.dst)).setCell ⟨b, v * 4 + 2, none⟩ (.string (S m.dat))).setCell ⟨b, v * 4 + 3, none⟩ (.int .i64 (nx p))).drew := ((((HO1.out.setCell (.inl rfl) _).setCell (.inl rfl) _).setCell (.inl rfl) _).setCell (.inl rfl) _).drew
  generalize ((((W1.setCell ⟨b, v * 4, none⟩ (.int .i64 m.src)).setCell ⟨b, v * 4 + 1, none⟩ (.int .i64 m.dst)).setCell ⟨b, v * 4 + 2, none⟩ (.string (S m.dat))).setCell ⟨b, v * 4 + 3, none⟩ (.int .i64 (nx p))).drew = W2 at *
  clear r0 r1 r2 r3 x0 x1 x2 e1 hf1
  have e1 := hN2.nxt hp
  rw [hcp] at e1
  have hf1 : ∀ j, W2.frozen? ⟨b, j, none⟩ = false := fun j => hN2.free j
  have hN3 := hN2.setNext hp (v : Int)
  rw [hcp] at hN3
  have c3 := hN3.cnt
  have hf3 : ∀ j, (W2.setCell ⟨b, cp, none⟩ (.int .i64 v)).frozen? ⟨b, j, none⟩ = false := fun j => hN3.free j
  have hN4 := hN3.setCount (n + 1)
  have HN4 := Lib.hid hN4
  have HO2 := Lib.hid hO2
  clear hN2 hN3 hN4 hO2
  go_wp2_with fail
  go_ret
  exact ⟨rfl, HN4.out, (HO2.out.setCell (.inl rfl) _).setCell (.inl rfl) _⟩

end Go.Proofs.Ytggflkjdpibioaa
