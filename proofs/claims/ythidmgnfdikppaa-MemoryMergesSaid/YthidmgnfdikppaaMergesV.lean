/- General: a region that draws its order and only reads, within a round of a range over a function: by the walk outside a fence. -/
import Derived.Test.YthidmgnfdikppaaMergesU
namespace Go.Proofs.Ythidmgnfdikppaa
set_option linter.unusedVariables false
open Go Go.RowKit Go.Shelf

theorem upon_round {P : Program} {n l : Nat} {o : Oper} {a : Act} {K : Act → World → Prop} {Q : Exit → Act → World → Prop} : ∀ {r : Result Next}, o.upon P a K Q r → o.uponIn (Fence.wide.inRound l) n P a K Q r
  | .ok (.value v) w, h => h
  | .ok .skip w, h => h
  | .ok (.defer d) w, h => h
  | .ok (.enter f args) w, h => ⟨(fun e => by cases e), (callsIn_wide (n := n - 1)).2 h⟩
  | .ok (.row row args) w, h => ⟨(fun e => by cases e), fun c cs _ => by
      obtain ⟨v, w', r, s⟩ := h c cs
      exact ⟨v, w', r, stepsIn_wide.2 s⟩⟩
  | .halt (.panic v) w, h => h
theorem wpAny_round {P : Program} {md : Region.Mode} {n l : Nat} {ops : Array Oper} {Q : Exit → Act → World → Prop} (hnd : ∀ (j : Nat) (o : Oper), ops[j]? = some o → ∀ c, o.op ≠ .defer c) (hnr : ¬ LetsOut Q) : ∀ (fuel : Nat) (listed : Array Bool) (a : Act) (w : World),
    wpAny P md ops Q fuel listed a w → wpAnyIn (Fence.wide.inRound l) n P md ops Q fuel listed a w
  | 0, _, _, _, h => h
  | fuel + 1, listed, a, w, h => by
    refine ⟨h.1, fun i hi => ?_⟩
    have hh := h.2 i hi
    unfold wpOp at hh
    unfold wpOpIn
    cases ho : ops[i]? with
    | none => rw [ho] at hh; exact wpAny_round hnd hnr fuel _ a w hh
    | some o =>
      rw [ho] at hh
      simp only at hh ⊢
      by_cases hw : Region.wanted o (yielded ops a.tmps) = true
      · rw [if_pos hw] at hh ⊢
        rcases hh with hh | hh
        · refine ⟨fun _ _ => trivial, ?_⟩
          show o.uponIn _ n P a _ Q ((o.semAt (some l) a.eval).run P w)
          rw [Oper.semAt_some l a.eval o (hnd i o ho)]
          have hh : o.upon P a (wpAny P md ops Q fuel (listed.setIfInBounds i true)) Q ((execOp a.eval o).run P w) := hh
          have key : ∀ {r : Result Next}, o.upon P a (wpAny P md ops Q fuel (listed.setIfInBounds i true)) Q r → o.upon P a (wpAnyIn (Fence.wide.inRound l) n P md ops Q fuel (listed.setIfInBounds i true)) Q r := by
            intro r hr
            cases r with
            | ok x w' =>
              cases x with
              | value v => exact wpAny_round hnd hnr fuel _ _ _ hr
              | skip => exact wpAny_round hnd hnr fuel _ _ _ hr
              | defer d => exact wpAny_round hnd hnr fuel _ _ _ hr
              | enter f args =>
                refine Calls.mono (R := _) hr ?_
                rintro (v | ch | _) w'' hq
                · exact wpAny_round hnd hnr fuel _ _ _ hq
                · exact hq
                · exact hq
              | row row args => exact Rows.mono hr (fun v w'' hq => wpAny_round hnd hnr fuel _ _ _ hq)
              | _ => exact hr.elim
            | halt x w' =>
              cases x with
              | panic v => exact hr
              | _ => exact hr.elim
          exact upon_round (key hh)
        · exact absurd hh.2 hnr
      · rw [if_neg hw] at hh ⊢
        exact ⟨fun _ _ => trivial, wpAny_round hnd hnr fuel _ _ _ hh⟩
def noDefer (ops : Array Oper) : Bool := ops.all (fun o => match o.op with | .defer _ => false | _ => true)
theorem noDefer_spec {ops : Array Oper} (h : noDefer ops = true) : ∀ (j : Nat) (o : Oper), ops[j]? = some o → ∀ c, o.op ≠ .defer c := fun j o ho c e => by
  unfold noDefer at h
  rw [Array.all_eq_true] at h
  obtain ⟨hj, hv⟩ := Array.getElem?_eq_some_iff.1 ho
  have := h j hj
  rw [hv, e] at this
  cases this
theorem wpIn_region_quiet_round {P : Program} {n lp id : Nat} {Q : Exit → Act → World → Prop} {a : Act} {w : World} {l : List Oper} (hm : P.follows .mixedOrders = true) (hB : Region.lexB .any l.toArray = true) (hnd : noDefer l.toArray = true) (hnr : ¬ LetsOut Q)
    (h : wpQuiet P l.toArray (fun w' => ∃ n, w' = w.drewN n) (fun a' => ∀ w', (∃ n, w' = w.drewN n) → Q .normal a' w') l a) : (Code.region id l.toArray true).wpIn (Fence.wide.inRound lp) n P Q a w := by
  refine wpIn_region_any hm (wpAny_round (noDefer_spec hnd) hnr _ _ _ _ ?_)
  simp only [Region.lexB, Bool.and_eq_true] at hB
  refine wpAny_of_quiet (C := fun w' => ∃ n, w' = w.drewN n) (Q := fun a' => ∀ w', (∃ n, w' = w.drewN n) → Q .normal a' w') (fun _ w' hw' h => h w' hw') _ _ _ _ ⟨1, rfl⟩ ?_
  have := wpAnyQ_lex (C := fun w' => ∃ n, w' = w.drewN n) (md := .any) hB.1 l.toArray.toList 0 (Array.replicate l.toArray.size false) a (by simp) (by simpa using hB.2) (by simpa using h)
  simpa using this

end Go.Proofs.Ythidmgnfdikppaa
