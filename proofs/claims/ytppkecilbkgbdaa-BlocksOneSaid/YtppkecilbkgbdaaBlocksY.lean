/- Layer 9: BlocksDecode, walked. -/
import Derived.Test.YtppkecilbkgbdaaBlocksX
namespace Go.Proofs.Ytppkecilbkgbdaa
set_option linter.unusedVariables false
open Go Go.RowKit
attribute [local go_sem ↓] run_index_S
attribute [local go_sem] S_append S_extract

/-- A block with room for so many cells, which may be written. -/
def RoomC (N : Nat) (w : World) (g : Nat) : Prop := ∃ C, RowIn C 32 w g ∧ N ≤ C.size
theorem RoomC.below {N : Nat} {w w' : World} {g : Nat} (h : RoomC N w g) (hb : Below w.heap.size w w') : RoomC N w' g := by
  obtain ⟨C, h1, h2⟩ := h
  exact ⟨C, h1.below hb, h2⟩
theorem RoomC.set {N : Nat} {w : World} {g : Nat} (h : RoomC N w g) (i : Nat) (v : Value) : RoomC N (w.setCell ⟨g, i, none⟩ v) g := by
  obtain ⟨C, h1, h2⟩ := h
  exact ⟨_, h1.set i v, by simpa using h2⟩
theorem RoomC.cell {N : Nat} {w : World} {g : Nat} (h : RoomC N w g) (i : Nat) (hi : i < N) : ∃ v, w.cell? ⟨g, i, none⟩ = some v := by
  obtain ⟨C, h1, h2⟩ := h
  exact ⟨_, (h1.cell i).trans (Array.getElem?_eq_getElem (by omega))⟩
theorem RoomC.free {N : Nat} {w : World} {g : Nat} (h : RoomC N w g) (i : Nat) : w.frozen? ⟨g, i, none⟩ = false := by
  obtain ⟨C, h1, h2⟩ := h
  exact h1.free i
theorem roomC_own {B : Nat} {w : World} {g o n cap : Nat} {xs : List Value} (h : w.ownsRow B 32 3 (.slice (some ⟨g, o, none⟩) n cap) n xs) : RoomC (n * 3) w g ∧ B ≤ g ∧ o = 0 := by
  rcases h.2 with ⟨e, _⟩ | ⟨g', cap', cur, e, hB, hg, hc, hm, hs, _⟩
  · cases e
  · injection e with e1 e2 e3
    injection e1 with e1
    injection e1 with e4 e5
    subst e4 e5 e3
    exact ⟨⟨cur, hg, by rw [hs]; exact Nat.mul_le_mul_right 3 hc⟩, hB, rfl⟩
theorem ownC_addr {B : Nat} {w : World} {ao : Option Addr} {n cap : Nat} {xs : List Value} (h : w.ownsRow B 32 3 (.slice ao n cap) n xs) (hn : 0 < n) : ∃ g, ao = some ⟨g, 0, none⟩ := by
  rcases h.2 with ⟨_, e⟩ | ⟨g', cap', cur, e, _⟩
  · omega
  · injection e with e1 e2 e3
    exact ⟨g', e1⟩
theorem M.decC_len {s : List UInt8} {L : List M.Cl} (h : M.decC s = some L) : L.length ≤ s.length := by
  obtain ⟨h1, h2, h3⟩ := M.decC_enc h
  have e1 := M.encL_ge (k := []) L
  have e2 := congrArg List.length h1
  simp only [M.encCs, List.length_append] at e2
  omega

set_option maxHeartbeats 4000000 in
set_option maxRecDepth 100000 in
theorem bdec_none (s : List UInt8) (h : s.length ≤ 5000) (hr : M.decC s = none) (W : World) :
    Calls Try.prog 4 #[.string (S s)] W fun e w' => e = .returned (.bool true) ∧ Below W.heap.size W w' := by
  have CD := Lib.hid (fun W => does9 W)
  have C1 := Lib.hid (fun W => by have := decode9_any s (by omega) W; unfold DecR9 at this; rw [hr] at this; exact this)
  have C2 := Lib.hid (fun W => by have := refDecode9_any s (by omega) W; unfold DecR9 at this; rw [hr] at this; exact this)
  have CM := Lib.hid (fun W => sameCells9_yes [] 0 rfl none none 0 0 (by decide) (clsAt_nil W none) (clsAt_nil W none))
  have d0 : decide ((5000 : Int) < (s.length : Int)) = false := by simp; omega
  clear hr
  go_enter Try.func4, Try.ntmps4
  go_wp2_with fail
  with_reducible refine (C1.out _).mono ?_
  rintro e w1 ⟨rfl, hbq⟩
  have HB := Lib.hid hbq
  clear hbq
  go_wp2_with fail
  with_reducible refine (C2.out _).mono ?_
  rintro e w2 ⟨rfl, hbq⟩
  replace HB := carry hbq HB
  clear hbq
  go_wp2_with fail
  with_reducible refine (CM.out _).mono ?_
  rintro e w3 ⟨rfl, hbq⟩
  replace HB := carry hbq HB
  clear hbq
  go_wp2_with fail
  go_loopw [7] (fun i wr => i = .int .i64 0 ∧ wr = w3) (fun i _ => 0)
  case atStart => exact ⟨rfl, rfl⟩
  case round =>
    obtain ⟨rfl, rfl⟩ := hrel
    go_wp2_with fail
    with_reducible refine (C1.out _).mono ?_
    rintro e w4 ⟨rfl, hbq⟩
    replace HB := carry hbq HB
    clear hbq
    go_wp2_with fail
    with_reducible refine (CM.out _).mono ?_
    rintro e w5 ⟨rfl, hbq⟩
    replace HB := carry hbq HB
    clear hbq
    go_wp2_with fail
    with_reducible refine (CD.out _).mono ?_
    rintro e w6 ⟨rfl, hbq⟩
    replace HB := carry hbq HB
    clear hbq
    go_wp2_with fail
    go_ret
    exact ⟨rfl, HB.out⟩

set_option maxHeartbeats 4000000 in
set_option maxRecDepth 100000 in
theorem bdec_some (s : List UInt8) (h : s.length ≤ 5000) (L : List M.Cl) (hr : M.decC s = some L) (W : World) :
    Calls Try.prog 4 #[.string (S s)] W fun e w' => e = .returned (.bool true) ∧ Below W.heap.size W w' := by
  have CD := Lib.hid (fun W => does9 W)
  have C1 := Lib.hid (fun W => by have := decode9_any s (by omega) W; unfold DecR9 at this; rw [hr] at this; exact this)
  have C2 := Lib.hid (fun W => by have := refDecode9_any s (by omega) W; unfold DecR9 at this; rw [hr] at this; exact this)
  have hl : L.length ≤ 5000 := Nat.le_trans (M.decC_len hr) h
  have CM := Lib.hid (fun W a b c1 c2 h1 h2 => sameCells9_yes L L.length rfl a b c1 c2 (by omega) (w := W) h1 h2)
  have d0 : decide ((5000 : Int) < (s.length : Int)) = false := by simp; omega
  clear hr
  simp only at C1 C2
  go_enter Try.func4, Try.ntmps4
  go_wp2_with fail
  with_reducible refine (C1.out _).mono ?_
  rintro e w1 ⟨⟨ao, cap, rfl, ho⟩, hbq⟩
  have HB := Lib.hid hbq
  have HA := Lib.hid ho
  have HGX : Hid (∀ g, ao = some ⟨g, 0, none⟩ → g < w1.heap.size) := Lib.hid (fun g hg => (ho.lt g (by rw [hg]; rfl)).2)
  clear hbq ho
  go_wp2_with fail
  with_reducible refine (C2.out _).mono ?_
  rintro e w2 ⟨⟨bo, cbp, rfl, ho⟩, hbq⟩
  replace HB := carry hbq HB
  replace HA := Lib.hid (ownP_below HA.out hbq)
  have HO := Lib.hid ho
  generalize w1.heap.size = X at *
  clear hbq ho
  go_wp2_with fail
  with_reducible refine (CM.out _ _ _ _ _ (clsAt_own HA.out rfl) (clsAt_own HO.out rfl)).mono ?_
  rintro e w3 ⟨rfl, hbq⟩
  replace HB := carry hbq HB
  replace HA := Lib.hid (ownP_below HA.out hbq)
  replace HO := Lib.hid (ownP_below HO.out hbq)
  clear hbq
  go_wp2_with fail
  go_loopw [7] (fun i wr => ∃ k : Nat, k ≤ L.length ∧ i = .int .i64 k ∧ Hid (wr.ownsRow X 32 3 (.slice bo L.length cbp) L.length (cls L)) ∧ Hid (∀ g, ao = some ⟨g, 0, none⟩ → RoomC (L.length * 3) wr g ∧ W.heap.size ≤ g ∧ g < X) ∧ Hid (Below W.heap.size W wr)) (fun i _ => L.length - (intOf i).toNat)
  case atStart => exact ⟨0, by omega, rfl, HO, Lib.hid (fun g hg => by
    have h1 := roomC_own (hg ▸ HA.out)
    exact ⟨h1.1, h1.2.1, HGX.out g hg⟩), HB⟩
  case round =>
    obtain ⟨k, hk, rfl, HOr, HGr, HBr⟩ := hrel
    by_cases hlt : k < L.length
    · have d2 : decide ((k : Int) < (L.length : Int)) = true := by simp; omega
      have hki : (k : Int) < (L.length : Int) := by omega
      obtain ⟨g, hao⟩ := ownC_addr HA.out (by omega)
      obtain ⟨hroom, hg1, hg2⟩ := HGr.out g hao
      subst hao
      obtain ⟨v0, c0⟩ := hroom.cell (k * 3) (by omega)
      obtain ⟨v1, c1⟩ := hroom.cell (k * 3 + 1) (by omega)
      obtain ⟨v2, c2⟩ := hroom.cell (k * 3 + 2) (by omega)
      have n0 := hroom.free (k * 3)
      have n1 := hroom.free (k * 3 + 1)
      have n2 := hroom.free (k * 3 + 2)
      have HRM := Lib.hid hroom
      clear hroom
      go_wp2_with fail
      go_roundw
      case rel => exact ⟨k + 1, by omega, by go_num, Lib.hid (ownP_set (ownP_set (ownP_set HOr.out (by omega) _ _) (by omega) _ _) (by omega) _ _), Lib.hid (fun g' hg' => by
        cases hg'
        exact ⟨((HRM.out.set _ _).set _ _).set _ _, hg1, hg2⟩), Lib.hid (((HBr.out.setCell (p := ⟨g, _, none⟩) hg1 _).setCell (p := ⟨g, _, none⟩) hg1 _).setCell (p := ⟨g, _, none⟩) hg1 _)⟩
      case measure => simp [intOf]; omega
    · obtain rfl : k = L.length := by omega
      have d2 : decide ((L.length : Int) < (L.length : Int)) = false := by simp
      clear HB
      go_wp2_with fail
      with_reducible refine (C1.out _).mono ?_
      rintro e w4 ⟨⟨a4, c4, rfl, ho⟩, hbq⟩
      replace HBr := carry hbq HBr
      replace HOr := Lib.hid (ownP_below HOr.out hbq)
      have HA4 := Lib.hid ho
      clear hbq ho
      go_wp2_with fail
      with_reducible refine (CM.out _ _ _ _ _ (clsAt_own HA4.out rfl) (clsAt_own HOr.out rfl)).mono ?_
      rintro e w5 ⟨rfl, hbq⟩
      replace HBr := carry hbq HBr
      clear hbq
      go_wp2_with fail
      with_reducible refine (CD.out _).mono ?_
      rintro e w6 ⟨rfl, hbq⟩
      replace HBr := carry hbq HBr
      clear hbq
      go_wp2_with fail
      go_ret
      exact ⟨rfl, HBr.out⟩

theorem blocksDecode_calls (W : World) (s : List UInt8) (hsl : s.length ≤ 140737488351232) :
    Calls Try.prog 4 #[.string (S s)] W fun e w' => e = .returned (.bool true) ∧ Below W.heap.size W w' := by
  by_cases h : s.length ≤ 5000
  · cases hr : M.decC s with
    | none => exact bdec_none s h hr W
    | some L => exact bdec_some s h L hr W
  · have d0 : decide ((5000 : Int) < (s.length : Int)) = true := by simp; omega
    go_enter Try.func4, Try.ntmps4
    go_wp2_with fail
    go_ret
    exact ⟨rfl, Below.refl _ _⟩

end Go.Proofs.Ytppkecilbkgbdaa
