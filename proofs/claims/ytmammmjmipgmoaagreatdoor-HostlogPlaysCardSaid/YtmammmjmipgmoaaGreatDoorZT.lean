import Derived.Test.YtmammmjmipgmoaaGreatDoorZA
import Derived.OrdersHeld
import Derived.Deep.RegionHeld
import Derived.RegionTactic
import Derived.Test.YtmammmjmipgmoaaGreatDoorZQh
set_option linter.unusedVariables false
set_option maxRecDepth 100000
set_option maxHeartbeats 16000000
namespace Go.Proofs.YtmammmjmipgmoaaGreatDoor
section
open Go Go.RowKit
section
variable {P : Program} {ops : Array Oper} {Q : Exit → Act → World → Prop} {md : Region.Mode} {S : World → Prop} {z : Nat}
def Ja5 (P : Program) (md : Region.Mode) (ops : Array Oper) (Q : Exit → Act → World → Prop) (S : World → Prop) (z : Nat) : Nat → Array Bool → Act → World → Prop
 | 0, listed, a, w => Region.ready md ops listed = [] ∧ Q .normal a w
 | fuel + 1, listed, a, w =>
  (Region.ready md ops listed = [] → Q .normal a w) ∧
  ∀ i ∈ Region.ready md ops listed, wpOp P ops Q i (fun a' w' => if i = z then wpAny P md ops Q fuel (listed.setIfInBounds i true) a' w' else S w' ∧ Ja5 P md ops Q S z fuel (listed.setIfInBounds i true) a' w') a w
theorem Jfz : ∀ (fuel : Nat) (listed : Array Bool) (a : Act) (w : World), Ja5 P md ops Q S z fuel listed a w → wpAny P md ops Q fuel listed a w
 | 0, _, _, _, h => h
 | fuel + 1, _, _, _, h => ⟨h.1, fun i hi => wpOp_mono (fun a' w' h' => by
   by_cases e : i = z
   ·rw [if_pos e] at h'; exact h'
   ·rw [if_neg e] at h'; exact Jfz fuel _ a' w' h'.2) (h.2 i hi)⟩
def Jhz (md : Region.Mode) (ops : Array Oper) (us : List Nat) (i : Nat) : Bool :=
 us.all fun u => match ops[u]? with
  | none => false
  | some o => o.after.any fun e => Region.binds md e && (e.on == i || us.contains e.on)
theorem Jd7 {listed : Array Bool} {k : Nat} (h : listed.getD k true = false) : listed.getD k false = false := by
 rcases Nat.lt_or_ge k listed.size with h' | h'
 ·simp [h'] at h ⊢; exact h
 ·simp [Array.getElem?_eq_none h'] at h ⊢
theorem Jjt {us : List Nat} {i : Nat} {listed : Array Bool} (hw : Jhz md ops us i = true) (hi : listed.getD i true = false) (hu : ∀ u, u ∈ us → listed.getD u true = false) {j : Nat} (hj : j ∈ Region.ready md ops listed) : j ∉ us := fun hjs => by
 obtain ⟨_, oj, hoj, hall⟩ := mem_ready.1 hj;have h1 := List.all_eq_true.1 hw j hjs;rw [hoj] at h1;obtain ⟨e, he, h2⟩ := Array.any_eq_true'.1 h1;rw [Bool.and_eq_true, Bool.or_eq_true] at h2;have h3 := hall e he h2.1
 have h4 : listed.getD e.on true = false := by
  rcases h2.2 with q | q
  ·rw [beq_iff_eq] at q; rw [q]; exact hi
  ·exact hu _ (by simpa using q)
 rw [Jd7 h4] at h3;cases h3
theorem Jic {i : Nat} {oi : Oper} {v : Value} {us : List Nat} (hi : ops[i]? = some oi) (hsel : ∀ (j : Nat) (o : Oper) cs b, ops[j]? = some o → o.op ≠ .select cs b)
  (hQ : ∀ c a w, Q (.panic c) (a.put oi.dst v) w → Q (.panic c) a w) (hz : z ∈ us) (hiz : i ≠ z) (hw : Jhz md ops us i = true) :
  ∀ (fuel : Nat) (listed : Array Bool) (a : Act) (w : World),
   (∀ j oj, ops[j]? = some oj → j ≠ i → listed.getD j true = false → (∀ e ∈ oj.after, Region.binds md e = true → e.on ≠ i) → oi.apart ops oj = true) →
   (∀ u, u ∈ us → listed.getD u true = false) →
   i ∈ Region.ready md ops listed → YieldsIf P ops S oi v a → S w →
   Ja5 P md ops Q S z fuel (listed.setIfInBounds i true) (a.put oi.dst v) w → Ja5 P md ops Q S z (fuel + 1) listed a w := by
 intro fuel;induction fuel with
 | zero =>
  intro listed a w _ _ hr hy hS H;refine ⟨fun h => (by rw [h] at hr; cases hr), fun j hj => ?_⟩;by_cases hji : j = i
  ·subst hji; exact hy.wpOp hi hS (by rw [if_neg hiz]; exact ⟨hS, H⟩)
  ·have := ready_mono hj hji
   rw [H.1] at this;cases this
 | succ fuel ih =>
  intro listed a w hfree hus hr hy hS H;refine ⟨fun h => (by rw [h] at hr; cases hr), fun j hj => ?_⟩;by_cases hji : j = i
  ·subst hji; exact hy.wpOp hi hS (by rw [if_neg hiz]; exact ⟨hS, H⟩)
  ·have hju : j ∉ us := Jjt hw (mem_ready.1 hr).1 hus hj
   have hjz : j ≠ z := fun e => hju (e ▸ hz)
   have h1 := H.2 j (ready_mono hj hji);simp only [if_neg hjz] at h1;obtain ⟨hjun, oj, hoj, hall⟩ := mem_ready.1 hj
   have hnot : ∀ e ∈ oj.after, Region.binds md e = true → e.on ≠ i := fun e he hb heq => by
    have h1 := hall e he hb;rw [heq, Jd7 (mem_ready.1 hr).1] at h1;cases h1
   have h2 := wpOp_putIf hoj (hfree j oj hoj hji hjun hnot) (fun cs b => hsel i oi cs b hi) (fun cs b => hsel j oj cs b hoj) hQ hy h1
   have hset : ∀ k, (listed.setIfInBounds j true).getD k true = false → listed.getD k true = false := fun k hk => by
    by_cases hjk : j = k
    ·subst hjk; exact hjun
    ·rw [getD_set_ne true hjk] at hk; exact hk
   have hfree' : ∀ k ok, ops[k]? = some ok → k ≠ i → (listed.setIfInBounds j true).getD k true = false →
     (∀ e ∈ ok.after, Region.binds md e = true → e.on ≠ i) → oi.apart ops ok = true := fun k ok hk hki hun hno => hfree k ok hk hki (hset k hun) hno
   have hus' : ∀ u, u ∈ us → (listed.setIfInBounds j true).getD u true = false := fun u hu => by
    have hju2 : j ≠ u := fun e => hju (e ▸ hu)
    rw [getD_set_ne true hju2]; exact hus u hu
   refine wpOp_mono (fun a' w' h3 => ?_) h2;rw [if_neg hjz];refine ⟨h3.2.1, ih (listed.setIfInBounds j true) a' w' hfree' hus' (ready_mono hr (Ne.symm hji)) h3.1 h3.2.1 ?_⟩;rw [Array.setIfInBounds_comm _ _ hji];exact h3.2.2
theorem Jju {i : Nat} {oi : Oper} {v : Value} {fuel : Nat} {listed : Array Bool} {a : Act} {w : World} (us : List Nat) (hi : ops[i]? = some oi)
  (hs : Region.noSelect ops = true) (hf : Region.free md ops listed i = true) (hr : (Region.ready md ops listed).contains i = true)
  (hu : (us.contains z && (i != z) && Jhz md ops us i && us.all (fun u => !listed.getD u true)) = true)
  (hQ : ∀ c a w, Q (.panic c) (a.put oi.dst v) w → Q (.panic c) a w) (hy : YieldsIf P ops S oi v a) (hS : S w)
  (h : Ja5 P md ops Q S z fuel (listed.setIfInBounds i true) (a.put oi.dst v) w) : Ja5 P md ops Q S z (fuel + 1) listed a w := by
 simp only [Bool.and_eq_true, bne_iff_ne, List.all_eq_true, Bool.not_eq_true'] at hu;obtain ⟨⟨⟨h1, h2⟩, h3⟩, h4⟩ := hu;exact Jic hi (Region.noSelect_spec hs) hQ (by simpa using h1) h2 h3 fuel listed a w (Region.free_spec hi hf) h4 (by simpa using hr) hy hS h
theorem Jho {i : Nat} {oi : Oper} {v : Value} (hi : ops[i]? = some oi) (hsel : ∀ (j : Nat) (o : Oper) cs b, ops[j]? = some o → o.op ≠ .select cs b)
  (hQ : ∀ c a w, Q (.panic c) (a.put oi.dst v) w → Q (.panic c) a w) (hiz : i ≠ z) :
  ∀ (fuel : Nat) (listed : Array Bool) (a : Act) (w : World),
   (∀ j oj, ops[j]? = some oj → j ≠ i → listed.getD j true = false → (∀ e ∈ oj.after, Region.binds md e = true → e.on ≠ i) → oi.apart ops oj = true) →
   i ∈ Region.ready md ops listed → Yields P ops oi v a → S w →
   Ja5 P md ops Q S z fuel (listed.setIfInBounds i true) (a.put oi.dst v) w → Ja5 P md ops Q S z (fuel + 1) listed a w := by
 intro fuel;induction fuel with
 | zero =>
  intro listed a w _ hr hy hS H;refine ⟨fun h => (by rw [h] at hr; cases hr), fun j hj => ?_⟩;by_cases hji : j = i
  ·subst hji; exact hy.wpOp hi (by rw [if_neg hiz]; exact ⟨hS, H⟩)
  ·have := ready_mono hj hji
   rw [H.1] at this;cases this
 | succ fuel ih =>
  intro listed a w hfree hr hy hS H;refine ⟨fun h => (by rw [h] at hr; cases hr), fun j hj => ?_⟩;by_cases hji : j = i
  ·subst hji; exact hy.wpOp hi (by rw [if_neg hiz]; exact ⟨hS, H⟩)
  ·have h1 := H.2 j (ready_mono hj hji)
   obtain ⟨hjun, oj, hoj, hall⟩ := mem_ready.1 hj
   have hnot : ∀ e ∈ oj.after, Region.binds md e = true → e.on ≠ i := fun e he hb heq => by
    have h1 := hall e he hb;rw [heq, Jd7 (mem_ready.1 hr).1] at h1;cases h1
   have hset : ∀ k, (listed.setIfInBounds j true).getD k true = false → listed.getD k true = false := fun k hk => by
    by_cases hjk : j = k
    ·subst hjk; exact hjun
    ·rw [getD_set_ne true hjk] at hk; exact hk
   have hfree' : ∀ k ok, ops[k]? = some ok → k ≠ i → (listed.setIfInBounds j true).getD k true = false →
     (∀ e ∈ ok.after, Region.binds md e = true → e.on ≠ i) → oi.apart ops ok = true := fun k ok hk hki hun hno => hfree k ok hk hki (hset k hun) hno
   by_cases hjz : j = z
   ·simp only [if_pos hjz] at h1
    have h2 := wpOp_put hoj (hfree j oj hoj hji hjun hnot) (fun cs b => hsel i oi cs b hi) (fun cs b => hsel j oj cs b hoj) hQ hy h1;refine wpOp_mono (fun a' w' h3 => ?_) h2;rw [if_pos hjz];refine wpAny_first hi hsel hQ fuel (listed.setIfInBounds j true) a' w' hfree' (ready_mono hr (Ne.symm hji)) h3.1 ?_;rw [Array.setIfInBounds_comm _ _ hji];exact h3.2
   ·simp only [if_neg hjz] at h1
    have h2 := wpOp_put hoj (hfree j oj hoj hji hjun hnot) (fun cs b => hsel i oi cs b hi) (fun cs b => hsel j oj cs b hoj) hQ hy h1;refine wpOp_mono (fun a' w' h3 => ?_) h2;rw [if_neg hjz];refine ⟨h3.2.1, ih (listed.setIfInBounds j true) a' w' hfree' (ready_mono hr (Ne.symm hji)) h3.1 h3.2.1 ?_⟩;rw [Array.setIfInBounds_comm _ _ hji];exact h3.2.2
theorem Jdj {i : Nat} {oi : Oper} {v : Value} {fuel : Nat} {listed : Array Bool} {a : Act} {w : World} (hi : ops[i]? = some oi)
  (hs : Region.noSelect ops = true) (hf : Region.free md ops listed i = true) (hr : (Region.ready md ops listed).contains i = true) (hiz : (i != z) = true)
  (hQ : ∀ c a w, Q (.panic c) (a.put oi.dst v) w → Q (.panic c) a w) (hy : Yields P ops oi v a) (hS : S w)
  (h : Ja5 P md ops Q S z fuel (listed.setIfInBounds i true) (a.put oi.dst v) w) : Ja5 P md ops Q S z (fuel + 1) listed a w :=
 Jho hi (Region.noSelect_spec hs) hQ (by simpa using hiz) fuel listed a w (Region.free_spec hi hf) (by simpa using hr) hy hS h
def AllReadyZ (P : Program) (md : Region.Mode) (ops : Array Oper) (Q : Exit → Act → World → Prop) (S : World → Prop) (z : Nat) (fuel : Nat) (listed : Array Bool) (a : Act) (w : World) (rs : List Nat) : Prop :=
 ∀ i ∈ rs, wpOp P ops Q i (fun a' w' => if i = z then wpAny P md ops Q fuel (listed.setIfInBounds i true) a' w' else S w' ∧ Ja5 P md ops Q S z fuel (listed.setIfInBounds i true) a' w') a w
theorem AllReadyZ.nil {fuel : Nat} {listed : Array Bool} {a : Act} {w : World} : AllReadyZ P md ops Q S z fuel listed a w [] := fun _ h => by cases h
theorem AllReadyZ.cons {fuel : Nat} {listed : Array Bool} {a : Act} {w : World} {i : Nat} {o : Oper} {rs : List Nat} (ho : ops[i]? = some o) (hiz : (i == z) = false)
  (h : ∀ K' : Act → World → Prop, Shut (∀ a w, S w → (S w → Ja5 P md ops Q S z fuel (listed.setIfInBounds i true) a w) → K' a w) → if Region.wanted o (yielded ops a.tmps) = true then Oper.wp P o a w K' Q else K' (a.put o.dst undef) w)
  (hs : AllReadyZ P md ops Q S z fuel listed a w rs) : AllReadyZ P md ops Q S z fuel listed a w (i :: rs) := fun j hj => by
 rcases List.mem_cons.1 hj with rfl | hj
 ·have e : j ≠ z := by simpa using hiz
  simp only [if_neg e];exact wpOp_step ho (fun K' hK => h K' (fun a w hS hW => hK a w ⟨hS, hW hS⟩))
 ·exact hs j hj
theorem AllReadyZ.last {fuel : Nat} {listed : Array Bool} {a : Act} {w : World} {o : Oper} {rs : List Nat} (ho : ops[z]? = some o)
  (h : ∀ K' : Act → World → Prop, Shut (∀ a w, wpAny P md ops Q fuel (listed.setIfInBounds z true) a w → K' a w) → if Region.wanted o (yielded ops a.tmps) = true then Oper.wp P o a w K' Q else K' (a.put o.dst undef) w)
  (hs : AllReadyZ P md ops Q S z fuel listed a w rs) : AllReadyZ P md ops Q S z fuel listed a w (z :: rs) := fun j hj => by
 rcases List.mem_cons.1 hj with rfl | hj
 ·simp only [if_pos]
  exact wpOp_step ho (fun K' hK => h K' hK)
 ·exact hs j hj
theorem Jco {rs : List Nat} {fuel : Nat} {listed : Array Bool} {a : Act} {w : World} (hr : Region.ready md ops listed = rs) (hne : rs ≠ [])
  (h : AllReadyZ P md ops Q S z fuel listed a w rs) : Ja5 P md ops Q S z (fuel + 1) listed a w :=
 ⟨fun h0 => absurd (hr ▸ h0) hne, hr ▸ h⟩
theorem Jaj {id : Nat} {a : Act} {w : World} (S : World → Prop) (z : Nat) (hm : P.follows .mixedOrders = true) (hS : S w.drew)
  (h : S w.drew → Ja5 P .any ops Q S z ops.size (Array.replicate ops.size false) a w.drew) : (Code.region id ops true).wp P Q a w :=
 wp_region_any hm (Jfz _ _ _ _ (h hS))
end
end
section
open Go Go.RowKit
section
variable {P : Program} {ops : Array Oper} {Q : Exit → Act → World → Prop} {md : Region.Mode} {S : World → Prop} {z : Nat}
  {d : Option Tmp} {op : Op} {ty : TypeId} {pos : String} {af : Array Edge} {gd : Option (Nat × Bool)} {v : Value} {fuel : Nat} {listed : Array Bool} {a a' : Act} {w : World}
theorem tkH (i : Nat) (h : wpAnyH P md ops Q S fuel (listed.setIfInBounds i true) a' w) (hi : ops[i]? = some ⟨d, op, ty, pos, af, gd⟩ := by rfl)
  (hw : Region.wanted ⟨d, op, ty, pos, af, gd⟩ (yielded ops a.tmps) = true := by rfl)
  (hv : ∀ w, S w → (execOp a.eval ⟨d, op, ty, pos, af, gd⟩).run P w = .ok (.value v) w := by (intro w hSw; (try dsimp only at hSw); go_simp); (first | done | with_reducible rfl))
  (ha : a.put d v = a' := by (try simp only [Act.put, List.setIfInBounds_toArray, List.set_cons_zero, List.set_cons_succ]); (first | done | exact rfl))
  (hs : Region.noSelect ops = true := by kernel_rfl) (hf : Region.free md ops listed i = true := by kernel_rfl) (hr : (Region.ready md ops listed).contains i = true := by kernel_rfl)
  (hQ : ∀ c a w, Q (.panic c) (a.put d v) w → Q (.panic c) a w := by (intro _ _ _ h; exact h)) (hS : S w := by assumption) : wpAnyH P md ops Q S (fuel + 1) listed a w :=
 wpAnyH_take hi hs hf hr hQ (.inl ⟨hw, hv⟩) hS (by rw [← ha] at h; exact h)
theorem tkO (i : Nat) (h : wpAnyH P md ops Q S fuel (listed.setIfInBounds i true) a' w) (hi : ops[i]? = some ⟨d, op, ty, pos, af, gd⟩ := by rfl)
  (hw : Region.wanted ⟨d, op, ty, pos, af, gd⟩ (yielded ops a.tmps) = false := by rfl)
  (ha : a.put d undef = a' := by (try simp only [Act.put, List.setIfInBounds_toArray, List.set_cons_zero, List.set_cons_succ]); (first | done | exact rfl))
  (hs : Region.noSelect ops = true := by kernel_rfl) (hf : Region.free md ops listed i = true := by kernel_rfl) (hr : (Region.ready md ops listed).contains i = true := by kernel_rfl)
  (hQ : ∀ c a w, Q (.panic c) (a.put d undef) w → Q (.panic c) a w := by (intro _ _ _ h; exact h)) (hS : S w := by assumption) : wpAnyH P md ops Q S (fuel + 1) listed a w :=
 wpAnyH_take hi hs hf hr hQ (.inr ⟨hw, rfl⟩) hS (by rw [← ha] at h; exact h)
theorem tkY (i : Nat) (h : Ja5 P md ops Q S z fuel (listed.setIfInBounds i true) a' w) (hi : ops[i]? = some ⟨d, op, ty, pos, af, gd⟩ := by rfl)
  (hw : Region.wanted ⟨d, op, ty, pos, af, gd⟩ (yielded ops a.tmps) = true := by rfl)
  (hv : ∀ w, (execOp a.eval ⟨d, op, ty, pos, af, gd⟩).run P w = .ok (.value v) w := by (intro w; go_simp); (first | done | with_reducible rfl))
  (ha : a.put d v = a' := by (try simp only [Act.put, List.setIfInBounds_toArray, List.set_cons_zero, List.set_cons_succ]); (first | done | exact rfl))
  (hs : Region.noSelect ops = true := by kernel_rfl) (hf : Region.free md ops listed i = true := by kernel_rfl) (hr : (Region.ready md ops listed).contains i = true := by kernel_rfl) (hz : (i != z) = true := by rfl)
  (hQ : ∀ c a w, Q (.panic c) (a.put d v) w → Q (.panic c) a w := by (intro _ _ _ h; exact h)) (hS : S w := by assumption) : Ja5 P md ops Q S z (fuel + 1) listed a w :=
 Jdj hi hs hf hr hz hQ (.inl ⟨hw, hv⟩) hS (by rw [← ha] at h; exact h)
theorem tkZ (i : Nat) (us : List Nat) (h : Ja5 P md ops Q S z fuel (listed.setIfInBounds i true) a' w) (hi : ops[i]? = some ⟨d, op, ty, pos, af, gd⟩ := by rfl)
  (hw : Region.wanted ⟨d, op, ty, pos, af, gd⟩ (yielded ops a.tmps) = true := by rfl)
  (hv : ∀ w, S w → (execOp a.eval ⟨d, op, ty, pos, af, gd⟩).run P w = .ok (.value v) w := by (intro w hSw; (try dsimp only at hSw); go_simp); (first | done | with_reducible rfl))
  (ha : a.put d v = a' := by (try simp only [Act.put, List.setIfInBounds_toArray, List.set_cons_zero, List.set_cons_succ]); (first | done | exact rfl))
  (hs : Region.noSelect ops = true := by kernel_rfl) (hf : Region.free md ops listed i = true := by kernel_rfl) (hr : (Region.ready md ops listed).contains i = true := by kernel_rfl)
  (hu : (us.contains z && (i != z) && Jhz md ops us i && us.all (fun u => !listed.getD u true)) = true := by kernel_rfl)
  (hQ : ∀ c a w, Q (.panic c) (a.put d v) w → Q (.panic c) a w := by (intro _ _ _ h; exact h)) (hS : S w := by assumption) : Ja5 P md ops Q S z (fuel + 1) listed a w :=
 Jju us hi hs hf hr hu hQ (.inl ⟨hw, hv⟩) hS (by rw [← ha] at h; exact h)
theorem tkA (i : Nat) (h : wpAny P md ops Q fuel (listed.setIfInBounds i true) a' w) (hi : ops[i]? = some ⟨d, op, ty, pos, af, gd⟩ := by rfl)
  (hw : Region.wanted ⟨d, op, ty, pos, af, gd⟩ (yielded ops a.tmps) = true := by rfl)
  (hv : ∀ w, (execOp a.eval ⟨d, op, ty, pos, af, gd⟩).run P w = .ok (.value v) w := by (intro w; go_simp); (first | done | with_reducible rfl))
  (ha : a.put d v = a' := by (try simp only [Act.put, List.setIfInBounds_toArray, List.set_cons_zero, List.set_cons_succ]); (first | done | exact rfl))
  (hs : Region.noSelect ops = true := by kernel_rfl) (hf : Region.free md ops listed i = true := by kernel_rfl) (hr : (Region.ready md ops listed).contains i = true := by kernel_rfl)
  (hQ : ∀ c a w, Q (.panic c) (a.put d v) w → Q (.panic c) a w := by (intro _ _ _ h; exact h)) : wpAny P md ops Q (fuel + 1) listed a w :=
 wpAny_take hi hs hf hr hQ (.inl ⟨hw, hv⟩) (by rw [← ha] at h; exact h)
theorem tqH (i : Nat) (h : ∀ K' : Act → World → Prop, Shut (∀ a w, S w → (S w → wpAnyH P md ops Q S fuel (listed.setIfInBounds i true) a w) → K' a w) → if Region.wanted ⟨d, op, ty, pos, af, gd⟩ (yielded ops a.tmps) = true then Oper.wp P ⟨d, op, ty, pos, af, gd⟩ a w K' Q else K' (a.put d undef) w) (hi : ops[i]? = some ⟨d, op, ty, pos, af, gd⟩ := by rfl)
  (hr : Region.ready md ops listed = [i] := by kernel_rfl) : wpAnyH P md ops Q S (fuel + 1) listed a w :=
 wpAnyH_ready hr (by simp) (AllReadyH.cons hi h AllReadyH.nil)
theorem tqZ (i : Nat) (h : ∀ K' : Act → World → Prop, Shut (∀ a w, S w → (S w → Ja5 P md ops Q S z fuel (listed.setIfInBounds i true) a w) → K' a w) → if Region.wanted ⟨d, op, ty, pos, af, gd⟩ (yielded ops a.tmps) = true then Oper.wp P ⟨d, op, ty, pos, af, gd⟩ a w K' Q else K' (a.put d undef) w) (hi : ops[i]? = some ⟨d, op, ty, pos, af, gd⟩ := by rfl)
  (hz : (i == z) = false := by rfl) (hr : Region.ready md ops listed = [i] := by kernel_rfl) : Ja5 P md ops Q S z (fuel + 1) listed a w :=
 Jco hr (by simp) (AllReadyZ.cons hi hz h AllReadyZ.nil)
theorem tqL (i : Nat) (h : ∀ K' : Act → World → Prop, Shut (∀ a w, wpAny P md ops Q fuel (listed.setIfInBounds i true) a w → K' a w) → if Region.wanted ⟨d, op, ty, pos, af, gd⟩ (yielded ops a.tmps) = true then Oper.wp P ⟨d, op, ty, pos, af, gd⟩ a w K' Q else K' (a.put d undef) w) (hi : ops[i]? = some ⟨d, op, ty, pos, af, gd⟩ := by rfl)
  (hr : Region.ready md ops listed = [i] := by kernel_rfl) : Ja5 P md ops Q S i (fuel + 1) listed a w :=
 Jco hr (by simp) (AllReadyZ.last hi h AllReadyZ.nil)
theorem tqA (i : Nat) (h : ∀ K' : Act → World → Prop, (∀ a w, wpAny P md ops Q fuel (listed.setIfInBounds i true) a w → K' a w) → if Region.wanted ⟨d, op, ty, pos, af, gd⟩ (yielded ops a.tmps) = true then Oper.wp P ⟨d, op, ty, pos, af, gd⟩ a w K' Q else K' (a.put d undef) w) (hi : ops[i]? = some ⟨d, op, ty, pos, af, gd⟩ := by rfl)
  (hr : Region.ready md ops listed = [i] := by kernel_rfl) : wpAny P md ops Q (fuel + 1) listed a w :=
 wpAny_ready hr (by simp) (AllReady.cons hi h AllReady.nil)
end
end
end Go.Proofs.YtmammmjmipgmoaaGreatDoor
