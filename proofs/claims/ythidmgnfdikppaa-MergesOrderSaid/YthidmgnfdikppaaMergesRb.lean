/- Layer 11: the document's Newest, by a contract. -/
import Derived.Test.YthidmgnfdikppaaMergesRa
import Derived.Test.YthidmgnfdikppaaMergesW
namespace Go.Proofs.Ythidmgnfdikppaa
set_option linter.unusedVariables false
open Go Go.RowKit
attribute [local go_sem ↓] run_index_S
attribute [local go_sem] S_append S_extract

theorem M.nw_last : ∀ (L : List M.Cl) (d : M.Cl), L.getLast? = some d → ∃ e, (M.nw L).getLast? = some e ∧ e.key = d.key := fun L d h => by
  obtain ⟨A, rfl⟩ : ∃ A, L = A ++ [d] := by
    rw [List.getLast?_eq_some_iff] at h
    exact h
  rw [M.nw_snoc, M.nwAdd]
  cases hl : (M.nw A).getLast? with
  | none => exact ⟨d, by simp, rfl⟩
  | some x =>
    by_cases hk : x.key = d.key
    · simp only [if_pos hk]; exact ⟨x, hl, hk⟩
    · simp only [if_neg hk]; exact ⟨d, by simp, rfl⟩
theorem M.nw_take {L : List M.Cl} {k : Nat} (h : k < L.length) : M.nw (L.take (k + 1)) = (if k = 0 ∨ ¬ (L.getD (k - 1) M.cl0).key = (L.getD k M.cl0).key then M.nw (L.take k) ++ [L.getD k M.cl0] else M.nw (L.take k)) := by
  rw [takeC_snoc h, M.nw_snoc]
  rcases Nat.eq_zero_or_pos k with rfl | h0
  · simp [M.nw, M.nwAdd]
  · obtain ⟨j, rfl⟩ : ∃ j, k = j + 1 := ⟨k - 1, by omega⟩
    have hl : (L.take (j + 1)).getLast? = some (L.getD j M.cl0) := by rw [takeC_snoc (by omega)]; simp
    obtain ⟨e, h1, h2⟩ := M.nw_last _ _ hl
    rw [M.nwAdd, h1]
    simp only [Nat.add_sub_cancel]
    rw [h2]
    by_cases hk : (L.getD j M.cl0).key = (L.getD (j + 1) M.cl0).key
    · rw [if_pos hk, if_neg (fun h => by rcases h with h | h; exact absurd h (Nat.succ_ne_zero _); exact h hk)]
    · rw [if_neg hk, if_pos (.inr hk)]
set_option maxHeartbeats 8000000 in
set_option maxRecDepth 100000 in
theorem refNewest11_any (Rs : List M.Rw) (hR : RsOk Rs) (ao : Option Addr) (cap : Nat) (w : World) (h : RwsAt w ao Rs) :
    Calls Try.prog 44 #[.slice ao Rs.length cap] w (AllR M.nw Rs w) := by
  obtain ⟨i0, z0, hi0, hz0, hz1, hz2, hz3⟩ := infoCl_parts
  have HR := Lib.hid hR
  have CA := Lib.hid (refAll11_any Rs hR ao cap w h)
  clear h hR
  go_enter Try.func44, Try.ntmps44
  go_wp2_with fail
  with_reducible refine (CA.out).mono ?_
  rintro e w1 ⟨a1, c1, rfl, ho1, hb1⟩
  by_cases hm : M.mayR Rs = true
  · rw [if_pos hm] at ho1
    rw [if_pos hm, if_pos hm]
    have hTl : (M.mrg (M.rls Rs)).length ≤ 900000 := by rw [M.mrg_len]; exact HR.out.tot
    simp only [id] at ho1 ⊢
    obtain ⟨T, hT⟩ : ∃ T, T = M.mrg (M.rls Rs) := ⟨_, rfl⟩
    rw [← hT] at ho1 hTl ⊢
    have HM := Lib.hid hm
    have HT := Lib.hid hT
    have HC := Lib.hid (clsAt_own ho1 rfl)
    have HB1 := Lib.hid hb1
    clear hm hT ho1 hb1 CA
    go_wp2_with fail
    go_loopw [6, 7] (fun ov i wr => ∃ (k : Nat) (A : List M.Cl) (ro : Option Addr) (rc : Nat), k ≤ T.length ∧ A.length ≤ k ∧ i = .int .i64 k ∧ ov = .slice ro A.length rc ∧ Hid (A = M.nw (T.take k)) ∧ Hid (wr.ownsRow w1.heap.size 38 3 (.slice ro A.length rc) A.length (cls A)) ∧ Hid (Below w1.heap.size w1 wr)) (fun _ i _ => T.length - (intOf i).toNat)
    case atStart => exact ⟨0, [], none, 0, Nat.zero_le _, Nat.le_refl _, rfl, rfl, Lib.hid rfl, Lib.hid (World.ownsRow_nil _ _ _ _), Lib.hid (Below.refl _ _)⟩
    case round =>
      obtain ⟨k, A, ro, rc, hk, hA, rfl, rfl, HA, HO, HB⟩ := hrel
      by_cases hlt : k < T.length
      · have hki : (k : Int) < (T.length : Int) := by omega
        have HCR := Lib.hid (HC.out.below HB.out)
        obtain ⟨g, off, rfl, hc⟩ := HCR.out.off k hlt
        have HNT := Lib.hid (M.nw_take hlt)
        have HCl := Lib.hid hc
        have HE5 := Lib.hid (fun c => (show (A ++ [c]).length = A.length + 1 from by simp))
        by_cases h0 : k = 0
        · have HNT1 := Lib.hid (show A ++ [T.getD k M.cl0] = M.nw (T.take (k + 1)) from by rw [HNT.out, if_pos (.inl h0), HA.out])
          replace HE5 := Lib.hid (HE5.out (T.getD k M.cl0))
          generalize T.getD k M.cl0 = c at *
          have hk0 : decide ((k : Int) = 0) = true := by simp; omega
          have hk1 : ((k : Int) == 0) = true := by simp; omega
          clear HNT hc h0
          go_wp2_with fail
          go_quiet (fail)
          have hbq : Below wr.heap.size wr (wr.drewN nq) := below_drewN (Below.refl _ _) nq
          obtain ⟨wq, hwq⟩ : ∃ x, x = wr.drewN nq := ⟨_, rfl⟩
          rw [← hwq] at hbq ⊢
          replace HB := carry hbq HB
          replace HO := carry hbq HO
          replace HCl := Lib.hid (HCl.out.below hbq)
          obtain ⟨x0, x1, x2⟩ := HCl.out
          clear hwq hbq
          generalize wq = wr at *
          have HX := Lib.hid (rowIn_new (clA c) 38 wr)
          have HO2 := carryA (w := wr) (.cells (clA c) 38) HO
          have HB2 := carryA (w := wr) (.cells (clA c) 38) HB
          go_wp2_with (at_builtin; refine wpList_append_cls_at rfl _ _ 22 rfl w1.heap.size i0 z0 Try.underlying22 hi0 hz0 hz1 hz2 hz3 (.slice ro A.length rc) A.length (cls A) rfl HO2.out (some ⟨wr.heap.size, 0, none⟩) 1 [c] rfl ?cA ?cB ?cC ?_)
          case cA => exact clsAt_row HX.out rfl
          case cB => have e1 : [c].length = 1 := rfl; omega
          case cC => exact HB2.out.size
          intro v' w5 ho5 hg5 hat5
          obtain ⟨ao5, cap5, rfl⟩ := ownP_shape ho5
          have HB5 := Lib.hid (HB2.out.grown hg5 HB2.out.size (fun q hq => (HO2.out.lt q hq).1))
          have HO5 := Lib.hid (show w5.ownsRow w1.heap.size 38 3 (.slice ao5 (A ++ [c]).length cap5) (A ++ [c]).length (cls (A ++ [c])) from by rw [HE5.out, cls_append]; exact ho5)
          clear ho5 hg5 hat5 x0 x1 x2
          go_wp2_with fail
          go_roundw
          case rel => exact ⟨k + 1, A ++ [c], ao5, cap5, by omega, by rw [HE5.out]; omega, by go_num, by rw [HE5.out], HNT1, HO5, HB5⟩
          case measure => simp [intOf]; omega
        · obtain ⟨g', off', he, hc'⟩ := HCR.out.off (k - 1) (by omega)
          obtain ⟨rfl, rfl⟩ : g = g' ∧ off = off' := by cases he; exact ⟨rfl, rfl⟩
          clear he
          have hw1 : IntKind.i64.wrap ((k : Int) - 1) = ((k - 1 : Nat) : Int) := by rw [IntWalk.i64_in _ (by omega)]; omega
          have hw2 : ((k - 1 : Nat) : Int) < (T.length : Int) := by omega
          have hw3 : (0 : Int) ≤ ((k - 1 : Nat) : Int) := by omega
          have hk0 : decide ((k : Int) = 0) = false := by simp; omega
          have hk1 : ((k : Int) == 0) = false := by rw [beq_eq_false_iff_ne]; omega
          obtain ⟨y0, _, _⟩ := hc'
          obtain ⟨x0, x1, x2⟩ := hc
          replace HE5 := Lib.hid (HE5.out (T.getD k M.cl0))
          generalize T.getD (k - 1) M.cl0 = d at *
          generalize T.getD k M.cl0 = c at *
          by_cases hkk : d.key = c.key
          · have HNT1 := Lib.hid (show A = M.nw (T.take (k + 1)) from by rw [HNT.out, if_neg (fun h => by rcases h with h | h; exact h0 h; exact h hkk), HA.out])
            have b1 : (c.key == d.key) = true := by simpa using hkk.symm
            clear HNT hkk
            go_wp2_with fail
            go_quiet (fail)
            have hbq : Below wr.heap.size wr (wr.drewN nq) := below_drewN (Below.refl _ _) nq
            obtain ⟨wq, hwq⟩ : ∃ x, x = wr.drewN nq := ⟨_, rfl⟩
            rw [← hwq] at hbq ⊢
            replace HB := carry hbq HB
            replace HO := carry hbq HO
            replace HCl := Lib.hid (HCl.out.below hbq)
            
            clear hwq hbq
            generalize wq = wr at *
            clear y0 x0 x1 x2
            go_wp2_with fail
            go_roundw
            case rel => exact ⟨k + 1, A, ro, rc, by omega, by omega, by go_num, rfl, HNT1, HO, HB⟩
            case measure => simp [intOf]; omega
          · have HNT1 := Lib.hid (show A ++ [c] = M.nw (T.take (k + 1)) from by rw [HNT.out, if_pos (.inr hkk), HA.out])
            have b1 : (c.key == d.key) = false := by rw [beq_eq_false_iff_ne]; exact fun h => hkk h.symm
            clear HNT hkk
            go_wp2_with fail
            go_quiet (fail)
            have hbq : Below wr.heap.size wr (wr.drewN nq) := below_drewN (Below.refl _ _) nq
            obtain ⟨wq, hwq⟩ : ∃ x, x = wr.drewN nq := ⟨_, rfl⟩
            rw [← hwq] at hbq ⊢
            replace HB := carry hbq HB
            replace HO := carry hbq HO
            replace HCl := Lib.hid (HCl.out.below hbq)
            obtain ⟨x0, x1, x2⟩ := HCl.out
            clear hwq hbq y0
            generalize wq = wr at *
            have HX := Lib.hid (rowIn_new (clA c) 38 wr)
            have HO2 := carryA (w := wr) (.cells (clA c) 38) HO
            have HB2 := carryA (w := wr) (.cells (clA c) 38) HB
            go_wp2_with (at_builtin; refine wpList_append_cls_at rfl _ _ 22 rfl w1.heap.size i0 z0 Try.underlying22 hi0 hz0 hz1 hz2 hz3 (.slice ro A.length rc) A.length (cls A) rfl HO2.out (some ⟨wr.heap.size, 0, none⟩) 1 [c] rfl ?cA ?cB ?cC ?_)
            case cA => exact clsAt_row HX.out rfl
            case cB => have e1 : [c].length = 1 := rfl; omega
            case cC => exact HB2.out.size
            intro v' w5 ho5 hg5 hat5
            obtain ⟨ao5, cap5, rfl⟩ := ownP_shape ho5
            have HB5 := Lib.hid (HB2.out.grown hg5 HB2.out.size (fun q hq => (HO2.out.lt q hq).1))
            have HO5 := Lib.hid (show w5.ownsRow w1.heap.size 38 3 (.slice ao5 (A ++ [c]).length cap5) (A ++ [c]).length (cls (A ++ [c])) from by rw [HE5.out, cls_append]; exact ho5)
            clear ho5 hg5 hat5 x0 x1 x2
            go_wp2_with fail
            go_roundw
            case rel => exact ⟨k + 1, A ++ [c], ao5, cap5, by omega, by rw [HE5.out]; omega, by go_num, by rw [HE5.out], HNT1, HO5, HB5⟩
            case measure => simp [intOf]; omega
      · obtain rfl : k = T.length := by omega
        have hEq : A = M.nw T := by have := HA.out; rwa [List.take_length] at this
        have HEq := Lib.hid hEq
        clear hEq
        go_wp2_with fail
        go_ret2
        refine ⟨ro, rc, ?_, ?_, HB1.out.trans (HB.out.mono HB1.out.size)⟩
        · rw [if_pos HM.out, if_pos HM.out, ← HT.out, ← HEq.out]; try rfl
        · rw [if_pos HM.out, ← HT.out, ← HEq.out]; exact ownP_mono HO.out HB1.out.size
  · rw [if_neg hm, if_neg hm]
    have HM := Lib.hid hm
    have HB1 := Lib.hid hb1
    clear hm ho1 hb1 CA
    go_wp2_with fail
    go_ret2
    refine ⟨none, 0, ?_, ?_, HB1.out⟩
    · rw [if_neg HM.out, if_neg HM.out]; rfl
    · rw [if_neg HM.out]; exact World.ownsRow_nil _ _ _ _

end Go.Proofs.Ythidmgnfdikppaa
