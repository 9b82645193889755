/- Layer 11: rows of rows of cells that come in; whether they are more than is gone through. -/
import Derived.Test.YthidmgnfdikppaaMergesY
namespace Go.Proofs.Ythidmgnfdikppaa
set_option linter.unusedVariables false
open Go Go.RowKit
attribute [local go_sem ↓] run_index_S
attribute [local go_sem] S_append S_extract

/-- Rows as they come in. -/
structure RwIn (r : M.Rw) : Prop where
  ints : ∀ y, y ∈ r.l → y.ints
  len : r.l.length ≤ 9223372036854775807
  cap : r.l.length ≤ r.k
def URs (W : World) (v : Value) : Prop := ∃ (Rs : List M.Rw) (ao : Option Addr) (cap : Nat), v = .slice ao Rs.length cap ∧ Rs.length ≤ 9223372036854775807 ∧ (∀ r, r ∈ Rs → RwIn r) ∧ Rs.length ≤ cap ∧ RwsAt W ao Rs
section
variable {H : Type} {enc : TypeId × Value → H} {W : World} {fuel : Nat} {cs : List Value} {x : DataW H × List MemPlace} {B : Nat} {sp : Nat → Bool} {hd : Bool}
set_option maxRecDepth 100000 in
theorem rows_cellsP (hf : DataW.trod enc Try.prog W 0 sp hd fuel 59 cs = some x) : ∃ (Rs : List M.Rw) (ao : Option Addr) (cap : Nat), cs = [.slice ao Rs.length cap] ∧ Rs.length ≤ 9223372036854775807 ∧ (∀ r, r ∈ Rs → RwIn r) ∧ Rs.length ≤ cap ∧ RwsAt W ao Rs := by
  have c8 : Try.prog.cellsOf 22 = 1 := by kernel_rfl
  rcases Deep.open_slice Try.underlying59 hf with ⟨hcs, _⟩ | ⟨a, len, cap, m, n, D, Pl, hcs, _, hl, hm, hmm, _, hx⟩
  · exact ⟨[], none, 0, hcs, by simp, by simp, by simp, fun h => absurd rfl h⟩
  · rw [c8] at hx
    have hlm : len ≤ m := by rw [hmm]; split <;> omega
    unfold maxLen at hm
    obtain ⟨L, hL, hp⟩ := choose_listP M.rw0 len (p := fun i (r : M.Rw) => W.cells? 0 (a.add (i * 1)) 1 = some [.slice r.o r.l.length r.k] ∧ RwIn r ∧ ClsAt W r.o r.l) (fun i hi => by
      obtain ⟨cs', h1, h2⟩ := hx i (by omega)
      obtain ⟨l, o, k, rfl, q1, q2, q3, q4⟩ := cells_cellsP h2
      exact ⟨⟨l, o, k⟩, h1, ⟨fun y hy => q2 y hy, q1, q3⟩, q4⟩)
    refine ⟨L, some a, cap, by rw [hcs, hL], by omega, fun y hym => ?_, by omega, fun hne => ?_⟩
    · obtain ⟨i, hi, rfl⟩ := List.mem_iff_getElem.1 hym
      have := (hp i (by omega)).2.1
      simpa [List.getD, List.getElem?_eq_getElem hi] using this
    · have h0 : 0 < len := by rw [← hL]; exact List.length_pos_iff.2 hne
      have e := addr_plainP (cells_getP (hp 0 h0).1 0 _ rfl)
      simp only [Nat.zero_mul, show ∀ x : Addr, x.add 0 = x from fun x => if_pos rfl] at e
      refine ⟨a.block, a.off, by rw [← e], fun j hj => ?_⟩
      have hc := cells_getP (hp j (by omega)).1
      rw [e, Addr.add_lit, Nat.mul_one] at hc
      exact ⟨hc 0 _ rfl, (hp j (by omega)).2.2⟩
end
section
variable {H : Type} {enc : TypeId × Value → H} {W : World} {r : Reach} {b0 : Nat} {v : Value} {d : DataW H} {p : List MemPlace}
set_option maxRecDepth 100000 in
theorem open_rows (hv : Value.okWide Try.prog W r b0 59 v) (h : DataW.Trod enc Try.prog W 0 (fun _ => true) true 59 v d p) : URs W v := by
  obtain ⟨a0, len, cap, rfl⟩ := WideShapes.okWide_slice Try.underlying59 hv
  obtain ⟨fuel, hf⟩ := h
  obtain ⟨L, ao, cap', hcs, h1, h2, h3, h4⟩ := rows_cellsP hf
  simp [Value.cells] at hcs
  obtain ⟨rfl, rfl, rfl⟩ := hcs
  exact ⟨L, a0, cap, rfl, h1, h2, h3, h4⟩
end
structure SmallRs (Rs : List M.Rw) : Prop where
  n : Rs.length ≤ 20
  each : ∀ r, r ∈ Rs → SmallCs9 r.l 200
  tot : ((M.rls Rs).map List.length).sum ≤ 300
theorem SmallRs.ok {Rs : List M.Rw} (h : SmallRs Rs) (hi : ∀ r, r ∈ Rs → RwIn r) : RsOk Rs :=
  ⟨by have := h.n; omega, fun r hr => by have := (h.each r hr).1; omega, fun r hr c hc => by
    have h1 := (h.each r hr).2 c hc
    exact ⟨by have := h1.1; omega, by have := h1.2; omega, (hi r hr).ints c hc⟩, by have := h.tot; unfold M.rls at this; omega⟩
theorem sum_le11 : ∀ (Rs : List M.Rw) (m : Nat), (∀ r, r ∈ Rs → r.l.length ≤ m) → ((M.rls Rs).map List.length).sum ≤ Rs.length * m
  | [], m, _ => by simp [M.rls]
  | r :: Rs, m, h => by
    have h1 := sum_le11 Rs m (fun r hr => h r (by simp [hr]))
    have h2 := h r (by simp)
    simp only [M.rls, List.map_cons, List.sum_cons, List.length_cons, Nat.add_mul] at *
    omega
def GreatR11 (Rs : List M.Rw) (w : World) (e : Ending) (w' : World) : Prop := (e = .returned (.bool true) ∨ (e = .returned (.bool false) ∧ SmallRs Rs)) ∧ w = w'
set_option maxHeartbeats 4000000 in
set_option maxRecDepth 100000 in
theorem great11_any (Rs : List M.Rw) (ao : Option Addr) (cap : Nat) (w : World) (h : RwsAt w ao Rs) (hn : Rs.length ≤ 9223372036854775807) (hi : ∀ r, r ∈ Rs → RwIn r) :
    Calls Try.prog 39 #[.slice ao Rs.length cap] w (GreatR11 Rs w) := by
  have HA := Lib.hid h
  have HI := Lib.hid hi
  clear h hi
  go_enter Try.func39, Try.ntmps39
  go_wp2_with fail
  go_loopw [3, 4] (fun nv i wr => ∃ (k : Nat) (v : Int), k ≤ Rs.length ∧ i = .int .i64 k ∧ nv = .int .i64 v ∧ Hid (∀ r, r ∈ Rs.take k → SmallCs9 r.l 200) ∧ Hid (k ≤ 1000 → v = (((M.rls (Rs.take k)).map List.length).sum : Nat)) ∧ w = wr) (fun nv i _ => Rs.length - (intOf i).toNat)
  case atStart => exact ⟨0, 0, Nat.zero_le _, rfl, rfl, Lib.hid (by simp), Lib.hid (fun _ => by simp [M.rls]), rfl⟩
  case round =>
    obtain ⟨k, v, hk, rfl, rfl, HS, HT, rfl⟩ := hrel
    by_cases hlt : k < Rs.length
    · have hki : (k : Int) < (Rs.length : Int) := by omega
      obtain ⟨g, off, rfl, hc⟩ := HA.out.off k hlt
      have HF := Lib.hid (M.getD_memR hlt)
      have HTK := Lib.hid (M.takeR_snoc hlt)
      generalize Rs.getD k M.rw0 = r at *
      obtain ⟨l, o, kc⟩ := r
      obtain ⟨x0, hcl⟩ := hc
      simp only at x0 hcl
      have C := Lib.hid (show Calls Try.prog 22 #[.slice o l.length kc, .int .i64 200] w fun e w' => GreatR9 l 200 w e w' from great9_any l kc 200 (by omega) hcl (HI.out _ HF.out).len)
      clear hcl
      go_wp2_with fail
      with_reducible refine (C.out).mono ?_
      rintro e w1 ⟨he, rfl⟩
      rcases he with rfl | ⟨rfl, hsm⟩
      · go_wp2_with fail
        go_ret
        exact ⟨.inl rfl, rfl⟩
      · have HS1 := Lib.hid (show ∀ r, r ∈ Rs.take (k + 1) → SmallCs9 r.l 200 from fun r hr => by
          rw [HTK.out, List.mem_append] at hr
          rcases hr with hr | hr
          · exact HS.out r hr
          · rw [List.mem_singleton] at hr; subst hr; exact hsm)
        have HT1 : Hid (k + 1 ≤ 1000 → v + (l.length : Int) = (((M.rls (Rs.take (k + 1))).map List.length).sum : Nat)) := Lib.hid (fun hk1 => by
          rw [HT.out (by omega), HTK.out]
          simp [M.rls])
        have hvb : k + 1 ≤ 1000 → 0 ≤ v ∧ v + (l.length : Int) ≤ 1000000 := fun hk1 => by
          rw [HT.out (by omega)]
          have hb := sum_le11 (Rs.take k) 200 (fun r hr => (HS.out r hr).1)
          have : (Rs.take k).length ≤ k := by simp; omega
          have := hsm.1
          have hb2 : (Rs.take k).length * 200 ≤ 1000 * 200 := Nat.mul_le_mul_right _ (by omega)
          omega
        clear C HS HT hsm
        by_cases hk1 : k + 1 ≤ 1000
        · obtain ⟨hv1, hv2⟩ := hvb hk1
          clear hvb
          go_wp2_with fail
          go_roundw
          case rel => exact ⟨k + 1, v + l.length, by omega, by go_num, rfl, HS1, HT1, trivial⟩
          case measure => simp [intOf]; omega
        · clear hvb
          go_wp2_with fail
          go_roundw
          case rel => exact ⟨k + 1, _, by omega, by go_num, rfl, HS1, Lib.hid (fun h => absurd h hk1), trivial⟩
          case measure => simp [intOf]; omega
    · obtain rfl : k = Rs.length := by omega
      have HS1 := HS.out
      have HT1 := HT.out
      rw [List.take_length] at HS1 HT1
      by_cases h20 : Rs.length ≤ 20
      · have d0 : decide (20 < Rs.length) = false := by simp; omega
        have d1 : decide ((20 : Int) < (Rs.length : Int)) = false := by simp; omega
        obtain ⟨t, ht⟩ : ∃ t, t = ((M.rls Rs).map List.length).sum := ⟨_, rfl⟩
        have hv := HT1 (by omega)
        rw [← ht] at hv
        have HTT := Lib.hid ht
        have HS2 := Lib.hid HS1
        clear HT1 HS1 ht HS HT
        subst hv
        by_cases h3 : t ≤ 300
        · have d2 : decide ((300 : Int) < (t : Int)) = false := by simp; omega
          have d3 : decide (300 < t) = false := by simp; omega
          go_wp2_with fail
          go_ret
          exact ⟨.inr ⟨rfl, h20, HS2.out, by rw [← HTT.out]; exact h3⟩, rfl⟩
        · have d2 : decide ((300 : Int) < (t : Int)) = true := by simp; omega
          have d3 : decide (300 < t) = true := by simp; omega
          go_wp2_with fail
          go_ret
          exact ⟨.inl rfl, rfl⟩
      · have d0 : decide (20 < Rs.length) = true := by simp; omega
        have d1 : decide ((20 : Int) < (Rs.length : Int)) = true := by simp; omega
        clear HS1 HT1 HS HT
        go_wp2_with fail
        go_ret
        exact ⟨.inl rfl, rfl⟩

end Go.Proofs.Ythidmgnfdikppaa
