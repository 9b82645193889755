/- Layer 10: a region of Open that draws its order: what it has, step by step. -/
import Derived.Test.YthidmgnfdikppaaTablesF
import Derived.Test.YthidmgnfdikppaaOrder
namespace Go.Proofs.Ythidmgnfdikppaa
set_option linter.unusedVariables false
open Go Go.RowKit

abbrev B7 := Bool × Bool × Bool × Bool × Bool × Bool × Bool
def allB (p : Bool → Bool) : Bool := p false && p true
theorem allB_spec {p : Bool → Bool} (h : allB p = true) : ∀ b, p b = true := fun b => by
  simp only [allB, Bool.and_eq_true] at h
  cases b
  · exact h.1
  · exact h.2
def all7 (p : B7 → Bool) : Bool := allB fun a => allB fun b => allB fun c => allB fun d => allB fun e => allB fun f => allB fun g => p (a, b, c, d, e, f, g)
theorem all7_spec {p : B7 → Bool} (h : all7 p = true) : ∀ s, p s = true := fun ⟨a, b, c, d, e, f, g⟩ =>
  allB_spec (allB_spec (allB_spec (allB_spec (allB_spec (allB_spec (allB_spec h a) b) c) d) e) f) g
def lst18 : B7 → Array Bool := fun (f5, f7, f8, f12, f14, f15, f18) => #[true, true, true, true, true, f5, true, f7, f8, true, true, true, f12, true, f14, f15, true, true, f18, false, false, false, false, false, false, false]
def good18 : B7 → Bool := fun (f5, f7, f8, f12, f14, f15, f18) => (!f8 || f5 && f7) && (!f15 || f8 && f12 && f14) && (!f18 || f15)
def nx18 : B7 → List (Nat × B7) := fun (f5, f7, f8, f12, f14, f15, f18) => if good18 (f5, f7, f8, f12, f14, f15, f18) then opt1 (!f5) (5, (true, f7, f8, f12, f14, f15, f18)) ++ opt1 (!f7) (7, (f5, true, f8, f12, f14, f15, f18)) ++ opt1 (!f8 && f5 && f7) (8, (f5, f7, true, f12, f14, f15, f18)) ++ opt1 (!f12) (12, (f5, f7, f8, true, f14, f15, f18)) ++ opt1 (!f14) (14, (f5, f7, f8, f12, true, f15, f18)) ++ opt1 (!f15 && f12 && f14 && f8) (15, (f5, f7, f8, f12, f14, true, f18)) ++ opt1 (!f18 && f15) (18, (f5, f7, f8, f12, f14, f15, true)) else []
def m18 : B7 → Nat := fun (f5, f7, f8, f12, f14, f15, f18) => (if f5 then 0 else 1) + (if f7 then 0 else 1) + (if f8 then 0 else 1) + (if f12 then 0 else 1) + (if f14 then 0 else 1) + (if f15 then 0 else 1) + (if f18 then 0 else 1)
def put18 (a : Act) (x5 x7 x8 x12 x14 x15 x18 : Value) : Act := (((((((a.put (some 79) x5).put (some 81) x7).put (some 82) x8).put (some 86) x12).put (some 88) x14).put (some 89) x15).put (some 92) x18)
theorem put_self10 (a : Act) (d : Nat) : a.put (some d) (a.tmps.getD d undef) = a := by
  obtain ⟨tmps, df⟩ := a
  simp only [Act.put, Act.mk.injEq, and_true]
  apply Array.ext_getElem?
  intro i
  rw [Array.getElem?_setIfInBounds]
  by_cases e : d = i
  · subst e
    by_cases h : d < tmps.size
    · simp [h]
    · simp [h]
  · simp [e]
theorem put18_self (a : Act) : a = put18 a (a.tmps.getD 79 undef) (a.tmps.getD 81 undef) (a.tmps.getD 82 undef) (a.tmps.getD 86 undef) (a.tmps.getD 88 undef) (a.tmps.getD 89 undef) (a.tmps.getD 92 undef) := by
  simp only [put18, put_self10]
/-- What the region begins with. -/
structure P18 where
  W : World
  bx : Nat
  bt : Nat
  x : M.RS
  bl : M.RS
  vB : Value
  vF : Value
  vC : Value
  Bk : List (List UInt8)
  F : List (List UInt8)
  C : List M.Cl
  fs : List UInt8
  bk : List UInt8
  al : Option Addr
  Ln : List M.Cl
  cl : Nat
  hF : F.length ≤ 1000000
  hB : Bk.length ≤ 1000000
  hC : C.length + Ln.length ≤ 1000000
structure St18 (p : P18) (f5 f7 f8 f12 f14 f15 f18 : Bool) (x5 x7 x8 x12 x14 x15 x18 : Value) (vB vF vC : Value) (Bk F : List (List UInt8)) (C : List M.Cl) (w : World) : Prop where
  rs : Rs10 p.W p.bx p.bt p.x p.bl p.vB p.vF vB vF vC Bk F C w
  l1 : f5 = true → x5 = p.vF
  l2 : f12 = true → x12 = p.vB
  a0 : f8 = false → vF = p.vF ∧ F = p.F
  a1 : f8 = true → x8 = vF ∧ F = p.F ++ [p.fs]
  b0 : f15 = false → vB = p.vB ∧ Bk = p.Bk
  b1 : f15 = true → x15 = vB ∧ Bk = p.Bk ++ [p.bk]
  c0 : f18 = false → vC = p.vC ∧ C = p.C ∧ Ln10 p.al p.Ln p.cl vC w
  c1 : f18 = true → x18 = vC ∧ C = p.C ++ p.Ln
  p1 : f7 = true → f8 = false → Pc10 x7 p.fs w vF vB
  p2 : f14 = true → f15 = false → Pc10 x14 p.bk w vF vB
def Sx18 (p : P18) (f5 f7 f8 f12 f14 f15 f18 : Bool) (x5 x7 x8 x12 x14 x15 x18 : Value) (w : World) : Prop := ∃ vB vF vC Bk F C, St18 p f5 f7 f8 f12 f14 f15 f18 x5 x7 x8 x12 x14 x15 x18 vB vF vC Bk F C w
section
variable {p : P18} {f5 f7 f8 f12 f14 f15 f18 : Bool} {x5 x7 x8 x12 x14 x15 x18 : Value} {w : World}
theorem Sx18.cell1 (h : Sx18 p f5 f7 f8 f12 f14 f15 f18 x5 x7 x8 x12 x14 x15 x18 w) : w.cell? ⟨p.bt, 1, none⟩ = some p.vF := by
  obtain ⟨vB, vF, vC, Bk, F, C, h⟩ := h
  exact h.rs.row.cell 1
theorem Sx18.cell0 (h : Sx18 p f5 f7 f8 f12 f14 f15 f18 x5 x7 x8 x12 x14 x15 x18 w) : w.cell? ⟨p.bt, 0, none⟩ = some p.vB := by
  obtain ⟨vB, vF, vC, Bk, F, C, h⟩ := h
  exact h.rs.row.cell 0
theorem Sx18.z5 (h : Sx18 p f5 f7 f8 f12 f14 f15 f18 x5 x7 x8 x12 x14 x15 x18 w) : Sx18 p true f7 f8 f12 f14 f15 f18 p.vF x7 x8 x12 x14 x15 x18 w := by
  obtain ⟨vB, vF, vC, Bk, F, C, h⟩ := h
  exact ⟨vB, vF, vC, Bk, F, C, h.rs, fun _ => rfl, h.l2, h.a0, h.a1, h.b0, h.b1, h.c0, h.c1, h.p1, h.p2⟩
theorem Sx18.z12 (h : Sx18 p f5 f7 f8 f12 f14 f15 f18 x5 x7 x8 x12 x14 x15 x18 w) : Sx18 p f5 f7 f8 true f14 f15 f18 x5 x7 x8 p.vB x14 x15 x18 w := by
  obtain ⟨vB, vF, vC, Bk, F, C, h⟩ := h
  exact ⟨vB, vF, vC, Bk, F, C, h.rs, h.l1, fun _ => rfl, h.a0, h.a1, h.b0, h.b1, h.c0, h.c1, h.p1, h.p2⟩
theorem pc10_new {v u : Value} {B B' : Nat} {e e' : TypeId} {n m sz sz' : Nat} {xs ys : List Value} (t : List UInt8) (h : w.ownsRow B e sz v n xs) (k : w.ownsRow B' e' sz' u m ys) : Pc10 (.slice (some ⟨w.heap.size, 0, none⟩) 1 1) t (w.alloc (.cells #[.string (S t)] 9)) v u :=
  ⟨w.heap.size, rfl, rowIn_new _ _ _, fun e => by have := (h.lt _ e).2; omega, fun e => by have := (k.lt _ e).2; omega⟩
theorem Sx18.z7 (h : Sx18 p f5 false f8 f12 f14 f15 f18 x5 x7 x8 x12 x14 x15 x18 w) : Sx18 p f5 true f8 f12 f14 f15 f18 x5 (.slice (some ⟨w.heap.size, 0, none⟩) 1 1) x8 x12 x14 x15 x18 (w.alloc (.cells #[.string (S p.fs)] 9)) := by
  obtain ⟨vB, vF, vC, Bk, F, C, h⟩ := h
  have hb := (Below.refl w.heap.size w).alloc (Nat.le_refl _) (.cells #[.string (S p.fs)] 9)
  exact ⟨vB, vF, vC, Bk, F, C, h.rs.below hb, h.l1, h.l2, h.a0, h.a1, h.b0, h.b1, fun e => ⟨(h.c0 e).1, (h.c0 e).2.1, (h.c0 e).2.2.below hb⟩, h.c1, fun _ _ => pc10_new p.fs h.rs.f h.rs.b, fun e1 e2 => (h.p2 e1 e2).below hb⟩
theorem Sx18.z14 (h : Sx18 p f5 f7 f8 f12 false f15 f18 x5 x7 x8 x12 x14 x15 x18 w) : Sx18 p f5 f7 f8 f12 true f15 f18 x5 x7 x8 x12 (.slice (some ⟨w.heap.size, 0, none⟩) 1 1) x15 x18 (w.alloc (.cells #[.string (S p.bk)] 9)) := by
  obtain ⟨vB, vF, vC, Bk, F, C, h⟩ := h
  have hb := (Below.refl w.heap.size w).alloc (Nat.le_refl _) (.cells #[.string (S p.bk)] 9)
  exact ⟨vB, vF, vC, Bk, F, C, h.rs.below hb, h.l1, h.l2, h.a0, h.a1, h.b0, h.b1, fun e => ⟨(h.c0 e).1, (h.c0 e).2.1, (h.c0 e).2.2.below hb⟩, h.c1, fun e1 e2 => (h.p1 e1 e2).below hb, fun _ _ => pc10_new p.bk h.rs.f h.rs.b⟩
theorem Sx18.z8 (h : Sx18 p true true false f12 f14 f15 f18 x5 x7 x8 x12 x14 x15 x18 w) : ∃ v' w', (Builtin.append_ #[55, 55] 55 #[x5, x7]).run Try.prog w = .ok v' w' ∧ Sx18 p true true true f12 f14 f15 f18 x5 x7 v' x12 x14 x15 x18 w' := by
  obtain ⟨vB, vF, vC, Bk, F, C, h⟩ := h
  obtain ⟨rfl, rfl⟩ := h.a0 rfl
  obtain rfl := h.l1 rfl
  obtain ⟨g, rfl, hg, hg1, hg2⟩ := h.p1 rfl rfl
  obtain ⟨v', w', hr, ho, hgr, hat⟩ := append_st10 w p.W.heap.size 55 55 Try.underlying55 p.vF p.F h.rs.f g 1 p.fs hg p.hF h.rs.bel.size
  refine ⟨v', w', hr, vB, v', vC, Bk, p.F ++ [p.fs], C, h.rs.appF ho hgr hat, h.l1, h.l2, (fun e => by cases e), (fun _ => ⟨rfl, rfl⟩), h.b0, h.b1, (fun e => ⟨(h.c0 e).1, (h.c0 e).2.1, (h.c0 e).2.2.grown h.rs.f hgr⟩), h.c1, (fun _ e => by cases e), (fun e1 e2 => (h.p2 e1 e2).grown hgr hat)⟩
theorem Sx18.z15 (h : Sx18 p f5 f7 f8 true true false f18 x5 x7 x8 x12 x14 x15 x18 w) : ∃ v' w', (Builtin.append_ #[55, 55] 55 #[x12, x14]).run Try.prog w = .ok v' w' ∧ Sx18 p f5 f7 f8 true true true f18 x5 x7 x8 x12 x14 v' x18 w' := by
  obtain ⟨vB, vF, vC, Bk, F, C, h⟩ := h
  obtain ⟨rfl, rfl⟩ := h.b0 rfl
  obtain rfl := h.l2 rfl
  obtain ⟨g, rfl, hg, hg1, hg2⟩ := h.p2 rfl rfl
  obtain ⟨v', w', hr, ho, hgr, hat⟩ := append_st10 w p.W.heap.size 55 55 Try.underlying55 p.vB p.Bk h.rs.b g 1 p.bk hg p.hB h.rs.bel.size
  refine ⟨v', w', hr, v', vF, vC, p.Bk ++ [p.bk], F, C, (h.rs.flip.appF ho hgr hat).flip, h.l1, h.l2, h.a0, h.a1, (fun e => by cases e), (fun _ => ⟨rfl, rfl⟩), (fun e => ⟨(h.c0 e).1, (h.c0 e).2.1, (h.c0 e).2.2.grown h.rs.b hgr⟩), h.c1, (fun e1 e2 => ((h.p1 e1 e2).symm.grown hgr hat).symm), (fun _ e => by cases e)⟩
theorem Sx18.z18 (h : Sx18 p f5 f7 f8 f12 f14 f15 false x5 x7 x8 x12 x14 x15 x18 w) : ∃ v' w', (Builtin.append_ #[22, 22] 22 #[p.vC, .slice p.al p.Ln.length p.cl]).run Try.prog w = .ok v' w' ∧ Sx18 p f5 f7 f8 f12 f14 f15 true x5 x7 x8 x12 x14 x15 v' w' := by
  obtain ⟨i0, z0, hi, hz0, hz1, hz2, hz3⟩ := infoCl_parts
  obtain ⟨vB, vF, vC, Bk, F, C, h⟩ := h
  obtain ⟨rfl, rfl, B', hl, hne⟩ := h.c0 rfl
  obtain ⟨v', w', hr, ho, hgr⟩ := append_cls w p.W.heap.size 22 22 i0 z0 Try.underlying22 hi hz0 hz1 hz2 hz3 p.vC p.C.length (cls p.C) h.rs.c p.al p.cl p.Ln (clsAt_own hl rfl) p.hC h.rs.bel.size
  refine ⟨v', w', hr, vB, vF, v', Bk, F, p.C ++ p.Ln, h.rs.appC (by rw [cls_append, List.length_append]; exact ho) hgr, h.l1, h.l2, h.a0, h.a1, h.b0, h.b1, (fun e => by cases e), (fun _ => ⟨rfl, rfl⟩), (fun e1 e2 => ?_), (fun e1 e2 => ?_)⟩
  · obtain ⟨g, g1, g2, g3, g4⟩ := h.p1 e1 e2
    exact ⟨g, g1, row_kept10 g2 hgr (fun e => row_apart g2 h.rs.c (by decide) g e rfl), g3, g4⟩
  · obtain ⟨g, g1, g2, g3, g4⟩ := h.p2 e1 e2
    exact ⟨g, g1, row_kept10 g2 hgr (fun e => row_apart g2 h.rs.c (by decide) g e rfl), g3, g4⟩
end
theorem good18_5 {f5 f7 f8 f12 f14 f15 f18 : Bool} : good18 (f5, f7, f8, f12, f14, f15, f18) = true → (!f5) = true → good18 (true, f7, f8, f12, f14, f15, f18) = true := by revert f5 f7 f8 f12 f14 f15 f18; decide
theorem good18_7 {f5 f7 f8 f12 f14 f15 f18 : Bool} : good18 (f5, f7, f8, f12, f14, f15, f18) = true → (!f7) = true → good18 (f5, true, f8, f12, f14, f15, f18) = true := by revert f5 f7 f8 f12 f14 f15 f18; decide
theorem good18_8 {f5 f7 f8 f12 f14 f15 f18 : Bool} : good18 (f5, f7, f8, f12, f14, f15, f18) = true → (!f8 && f5 && f7) = true → good18 (f5, f7, true, f12, f14, f15, f18) = true := by revert f5 f7 f8 f12 f14 f15 f18; decide
theorem good18_12 {f5 f7 f8 f12 f14 f15 f18 : Bool} : good18 (f5, f7, f8, f12, f14, f15, f18) = true → (!f12) = true → good18 (f5, f7, f8, true, f14, f15, f18) = true := by revert f5 f7 f8 f12 f14 f15 f18; decide
theorem good18_14 {f5 f7 f8 f12 f14 f15 f18 : Bool} : good18 (f5, f7, f8, f12, f14, f15, f18) = true → (!f14) = true → good18 (f5, f7, f8, f12, true, f15, f18) = true := by revert f5 f7 f8 f12 f14 f15 f18; decide
theorem good18_15 {f5 f7 f8 f12 f14 f15 f18 : Bool} : good18 (f5, f7, f8, f12, f14, f15, f18) = true → (!f15 && f12 && f14 && f8) = true → good18 (f5, f7, f8, f12, f14, true, f18) = true := by revert f5 f7 f8 f12 f14 f15 f18; decide
theorem good18_18 {f5 f7 f8 f12 f14 f15 f18 : Bool} : good18 (f5, f7, f8, f12, f14, f15, f18) = true → (!f18 && f15) = true → good18 (f5, f7, f8, f12, f14, f15, true) = true := by revert f5 f7 f8 f12 f14 f15 f18; decide
theorem fin18 {f5 f7 f8 f12 f14 f15 f18 : Bool} : good18 (f5, f7, f8, f12, f14, f15, f18) = true → nx18 (f5, f7, f8, f12, f14, f15, f18) = [] → f5 = true ∧ f7 = true ∧ f8 = true ∧ f12 = true ∧ f14 = true ∧ f15 = true ∧ f18 = true := fun h1 h2 => by
  have h3 : (nx18 (f5, f7, f8, f12, f14, f15, f18)).isEmpty = true := by rw [h2]; rfl
  clear h2
  have h4 : (f5 && f7 && f8 && f12 && f14 && f15 && f18) = true := by revert f5 f7 f8 f12 f14 f15 f18; decide
  simp only [Bool.and_eq_true] at h4
  obtain ⟨⟨⟨⟨⟨⟨a, b⟩, c⟩, d⟩, e⟩, f⟩, g⟩ := h4
  exact ⟨a, b, c, d, e, f, g⟩
def J18 (p : P18) (a0 : Act) : B7 → Act → World → Prop := fun (f5, f7, f8, f12, f14, f15, f18) a w => good18 (f5, f7, f8, f12, f14, f15, f18) = true ∧ ∃ x5 x7 x8 x12 x14 x15 x18, a = put18 a0 x5 x7 x8 x12 x14 x15 x18 ∧ Sx18 p f5 f7 f8 f12 f14 f15 f18 x5 x7 x8 x12 x14 x15 x18 w

end Go.Proofs.Ythidmgnfdikppaa
