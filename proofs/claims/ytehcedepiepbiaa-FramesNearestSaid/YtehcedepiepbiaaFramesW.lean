/- Layer 4: the document's Whole, by a contract: a loop that appends. -/
import Derived.Test.YtehcedepiepbiaaFramesA
import Derived.Maps.AppendAt
namespace Go.Proofs.Ytehcedepiepbiaa
set_option linter.unusedVariables false
open Go Go.RowKit
attribute [local go_sem ↓] run_index_S
attribute [local go_sem] S_append S_extract

/-- P4.2 Whole, from a place on. -/
def M.wh (s : List UInt8) (e : Nat) : List (List UInt8) × Nat :=
  match h : M.next s e with
  | none => ([], e)
  | some (p, z) => (p :: (M.wh s z).1, (M.wh s z).2)
termination_by s.length - e
decreasing_by
  have := M.next_bounds h
  omega
theorem M.wh_none {s : List UInt8} {e : Nat} (h : M.next s e = none) : M.wh s e = ([], e) := by
  rw [M.wh]
  split
  · rfl
  · rename_i p z h'
    rw [h] at h'; simp at h'
theorem M.wh_some {s p : List UInt8} {e z : Nat} (h : M.next s e = some (p, z)) : M.wh s e = (p :: (M.wh s z).1, (M.wh s z).2) := by
  rw [M.wh]
  split
  · rename_i h'
    rw [h] at h'; simp at h'
  · rename_i p' z' h'
    rw [h] at h'
    simp only [Option.some.injEq, Prod.mk.injEq] at h'
    rw [← h'.1, ← h'.2]

/-- The cells of texts. -/
def txs (ps : List (List UInt8)) : List Value := ps.map fun p => Value.string (S p)
theorem infoS : (Try.prog.info? 9).map (fun i => (i.zero, i.size, i.bytes)) = some (some (.string ByteArray.empty), 1, 16) := by kernel_rfl
theorem row_below {B : Nat} {e : TypeId} {v : Value} {n : Nat} {xs : List Value} {w w' : World} (h : w.ownsRow B e 1 v n xs) (hb : Below w.heap.size w w') : w'.ownsRow B e 1 v n xs := by
  refine ⟨h.1, ?_⟩
  rcases h.2 with hc | ⟨g, cap, cur, rfl, hBg, hgg, rest⟩
  · exact .inl hc
  · exact .inr ⟨g, cap, cur, rfl, hBg, by rw [hb.block g (Array.getElem?_eq_some_iff.1 hgg).1]; exact hgg, rest⟩

set_option maxHeartbeats 1000000 in
theorem refRow_any (l : List UInt8) (hl : l.length ≤ 1000000) (w : World) :
    Calls Try.prog 20 #[.string (S l)] w fun e w' => ∃ v, e = .returned (.tuple #[v, .int .i64 ((M.wh l 0).2 : Nat)]) ∧ w'.ownsRow w.heap.size 9 1 v (M.wh l 0).1.length (txs (M.wh l 0).1) ∧ Below w.heap.size w w' := by
  obtain ⟨i0, hi, hz0, hz1, hz2⟩ := info_parts infoS
  go_enter Try.func20, Try.ntmps20
  go_wp2_with fail
  go_loopw [4, 5] (fun v i wr => ∃ (ps : List (List UInt8)) (z : Nat) (ao : Option Addr) (cv : Nat), v = .slice ao ps.length cv ∧ i = .int .i64 z ∧ 8 * ps.length ≤ z ∧ z ≤ l.length ∧ M.wh l 0 = (ps ++ (M.wh l z).1, (M.wh l z).2) ∧ wr.ownsRow w.heap.size 9 1 v ps.length (txs ps) ∧ Below w.heap.size w wr) (fun _ i _ => l.length - (intOf i).toNat)
  case atStart => exact ⟨[], 0, none, 0, rfl, rfl, by simp, by omega, by simp, World.ownsRow_nil _ _ _ _, Below.refl _ _⟩
  case round =>
    rename_i wr
    obtain ⟨ps, z, ao, cv, rfl, rfl, h8, hzl, hwh, hown, hb⟩ := hrel
    have HW := Lib.hid hwh
    have HO := Lib.hid hown
    have hbs := hb.size
    clear hwh hown
    by_cases hz : z < l.length
    · have d1 : decide ((z : Int) < (l.length : Int)) = true := by simp; omega
      have cn := fun W => refNext_any l (by omega) (z : Int) W
      rw [M.nextI_nat] at cn
      cases hn : M.next l z with
      | none =>
        rw [hn] at cn
        simp only [triF] at cn
        have CN := Lib.hid cn
        have HE := Lib.hid (show M.wh l 0 = (ps, z) from by rw [HW.out, M.wh_none hn]; simp)
        clear cn hn
        go_wp2_with fail
        with_reducible refine (CN.out _).mono ?_
        rintro e w1 ⟨rfl, hb1⟩
        go_wp2_with fail
        go_ret2
        refine ⟨_, by rw [HE.out]; rfl, ?_, below_step hb hb1⟩
        rw [HE.out]
        exact row_below HO.out hb1
      | some r =>
        obtain ⟨p, z2⟩ := r
        have hbd := M.next_bounds hn
        rw [hn] at cn
        simp only [triF] at cn
        have CN := Lib.hid cn
        have HE := Lib.hid (show M.wh l 0 = ((ps ++ [p]) ++ (M.wh l z2).1, (M.wh l z2).2) from by rw [HW.out, M.wh_some hn]; simp)
        have q1 := hbd.2.1
        have q2 := hbd.2.2.1
        clear cn hn hbd
        go_wp2_with fail
        with_reducible refine (CN.out _).mono ?_
        rintro e w1 ⟨rfl, hb1⟩
        have hown1 := row_below HO.out hb1
        have HB1 := Lib.hid (below_step hb hb1)
        have hsz1 := HB1.out.size
        clear hb1
        go_wp2_with (at_builtin; refine wpList_append_own _ rfl _ _ 30 rfl w.heap.size 9 i0 (.string ByteArray.empty) 1 16 Try.underlying30 hi hz0 hz1 hz2 rfl (by decide) (.slice ao ps.length cv) ps.length (txs ps) rfl (hown1.alloc _) ⟨w1.heap.size, 0, none⟩ 1 1 [.string (S p)] rfl rfl (cell_one_new _ _ _) (fun x hx => by simp at hx; subst hx; rfl) (by unfold maxLen; omega) (by omega) (by simp; omega) ?_; intro v' w3 hown' hgrow3 hnil3)
        go_roundw
        case rel =>
          obtain ⟨g3, cap3, hv3⟩ : ∃ g3 cap3, v' = .slice (some ⟨g3, 0, none⟩) (ps.length + 1) cap3 := by
            rcases hown'.2 with ⟨_, h⟩ | ⟨g3, cap3, _, h, _⟩
            · omega
            · exact ⟨g3, cap3, h⟩
          exact ⟨ps ++ [p], z2, some ⟨g3, 0, none⟩, cap3, by rw [hv3]; simp, rfl, by simp; omega, q2, HE.out, by rw [txs, List.map_append, List.length_append]; exact hown', (HB1.out.alloc hsz1 _).grown hgrow3 (by simp; omega) (fun q hq => (hown1.lt q hq).1)⟩
        case measure => simp [intOf]; omega
    · have d1 : decide ((z : Int) < (l.length : Int)) = false := by simp; omega
      have HE := Lib.hid (show M.wh l 0 = (ps, z) from by rw [HW.out, M.wh_none (M.next_no (fun h => by have := h.room; omega))]; simp)
      go_wp2_with fail
      go_ret2
      refine ⟨_, by rw [HE.out]; rfl, ?_, hb⟩
      rw [HE.out]
      exact HO.out

end Go.Proofs.Ytehcedepiepbiaa
