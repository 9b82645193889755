/- Layer 15: some memories, the program's and the document's, none of which writes another. -/
import Derived.Test.YthidmgnfdikppaaMemYc
namespace Go.Proofs.Ythidmgnfdikppaa
set_option linter.unusedVariables false
set_option linter.unusedSimpArgs false
open Go Go.RowKit

/-- A memory: the program's, or the document's; its block, its cells; the blocks that it has, and those that it may write. -/
structure M.Ob where
  mem : Bool
  b : Nat
  L : List M.Cl
  F : Nat → Prop
  W : Nat → Prop
def M.Ob.key (x : M.Ob) : Bool × Nat × List M.Cl := (x.mem, x.b, x.L)
def ObAt (B : Nat) (x : M.Ob) (w : World) : Prop :=
  if x.mem = true then ∃ pa pc Ps, MemAt B x.b pa pc Ps x.L w ∧ SmP Ps ∧ (∀ k, FtS x.b pa Ps k → x.F k) ∧ (∀ k, WrS x.b pa Ps k → x.W k)
  else ∃ ao cap, RefM x.b ao cap x.L w ∧ x.F x.b ∧ (∀ a, ao = some a → x.F a.block) ∧ x.W x.b ∧ B ≤ x.b
/-- Neither writes the other. -/
def M.Apart (x y : M.Ob) : Prop := (∀ k, x.W k → ¬ y.F k) ∧ (∀ k, y.W k → ¬ x.F k)
structure Sys (B : Nat) (xs : List M.Ob) (w : World) : Prop where
  at_ : ∀ x, x ∈ xs → ObAt B x w
  lt : ∀ x, x ∈ xs → ∀ k, x.F k → k < w.heap.size
  wf : ∀ x, x ∈ xs → ∀ k, x.W k → x.F k ∧ B ≤ k
  ap : xs.Pairwise M.Apart
  base : B ≤ w.heap.size
theorem ObAt.below {B : Nat} {x : M.Ob} {w w' : World} (h : ObAt B x w) (hb : Below w.heap.size w w') : ObAt B x w' := by
  unfold ObAt at *
  split at h
  · rename_i hm
    rw [if_pos hm]
    obtain ⟨pa, pc, Ps, h1, h2⟩ := h
    exact ⟨pa, pc, Ps, h1.below hb, h2⟩
  · rename_i hm
    rw [if_neg hm]
    obtain ⟨ao, cap, h1, h2⟩ := h
    exact ⟨ao, cap, h1.below hb, h2⟩
theorem ObAt.only {A : Nat → Prop} {B : Nat} {x : M.Ob} {w w' : World} (h : ObAt B x w) (hO : OnlyS A w w') (hA : ∀ k, A k → ¬ x.F k) : ObAt B x w' := by
  unfold ObAt at *
  split at h
  · rename_i hm
    rw [if_pos hm]
    obtain ⟨pa, pc, Ps, h1, h2, h3, h4⟩ := h
    exact ⟨pa, pc, Ps, h1.only hO (fun k hk ha => hA k ha (h3 k hk)), h2, h3, h4⟩
  · rename_i hm
    rw [if_neg hm]
    obtain ⟨ao, cap, h1, h2, h3, h4⟩ := h
    exact ⟨ao, cap, h1.only hO (fun ha => hA _ ha h2) (fun a e ha => hA _ ha (h3 a e)), h2, h3, h4⟩
theorem Sys.below {B : Nat} {xs : List M.Ob} {w w' : World} (h : Sys B xs w) (hb : Below w.heap.size w w') : Sys B xs w' :=
  ⟨fun x hx => (h.at_ x hx).below hb, fun x hx k hk => Nat.lt_of_lt_of_le (h.lt x hx k hk) hb.size, h.wf, h.ap, Nat.le_trans h.base hb.size⟩
theorem M.Apart.symm {x y : M.Ob} (h : M.Apart x y) : M.Apart y x := ⟨h.2, h.1⟩
theorem Sys.perm {B : Nat} {xs ys : List M.Ob} {w : World} (h : Sys B xs w) (hp : xs.Perm ys) : Sys B ys w :=
  ⟨fun x hx => h.at_ x (hp.mem_iff.2 hx), fun x hx => h.lt x (hp.mem_iff.2 hx), fun x hx => h.wf x (hp.mem_iff.2 hx), (hp.pairwise_iff (fun {_ _} k => k.symm)).1 h.ap, h.base⟩
/-- The first one, turned; the others stay. -/
theorem Sys.turn {B : Nat} {x x' : M.Ob} {xs : List M.Ob} {w w' : World} (h : Sys B (x :: xs) w) (hO : OnlyS x.W w w') (hx : ObAt B x' w') (hF : ∀ k, x'.F k → x.F k ∨ (w.heap.size ≤ k ∧ k < w'.heap.size)) (hW : ∀ k, x'.W k → (x.W k ∨ (w.heap.size ≤ k ∧ k < w'.heap.size)) ∧ x'.F k) : Sys B (x' :: xs) w' ∧ Below B w w' := by
  obtain ⟨a1, a2⟩ := List.pairwise_cons.1 h.ap
  refine ⟨⟨fun y hy => ?_, fun y hy k hk => ?_, fun y hy k hk => ?_, List.pairwise_cons.2 ⟨fun y hy => ⟨fun k hk hf => ?_, fun k hk hf => ?_⟩, a2⟩, Nat.le_trans h.base hO.size⟩, hO.below (fun k hk => (h.wf x (by simp) k hk).2) h.base⟩
  · rcases List.mem_cons.1 hy with rfl | hy
    · exact hx
    · exact (h.at_ y (by simp [hy])).only hO (a1 y hy).1
  · rcases List.mem_cons.1 hy with rfl | hy
    · rcases hF k hk with q | q
      · exact Nat.lt_of_lt_of_le (h.lt x (by simp) k q) hO.size
      · exact q.2
    · exact Nat.lt_of_lt_of_le (h.lt y (by simp [hy]) k hk) hO.size
  · rcases List.mem_cons.1 hy with rfl | hy
    · refine ⟨(hW k hk).2, ?_⟩
      rcases (hW k hk).1 with q | q
      · exact (h.wf x (by simp) k q).2
      · exact Nat.le_trans h.base q.1
    · exact h.wf y (by simp [hy]) k hk
  · rcases (hW k hk).1 with q | q
    · exact (a1 y hy).1 k q hf
    · have := h.lt y (by simp [hy]) k hf
      omega
  · rcases hF k hf with q | q
    · exact (a1 y hy).2 k hk q
    · have := h.lt y (by simp [hy]) k (h.wf y (by simp [hy]) k hk).1
      omega
/-- One more, of new blocks. -/
theorem Sys.more {B : Nat} {x : M.Ob} {xs : List M.Ob} {w w' : World} (h : Sys B xs w) (hb : Below w.heap.size w w') (hx : ObAt B x w') (hF : ∀ k, x.F k → w.heap.size ≤ k ∧ k < w'.heap.size) (hW : ∀ k, x.W k → x.F k) : Sys B (x :: xs) w' := by
  have h' := h.below hb
  refine ⟨fun y hy => ?_, fun y hy k hk => ?_, fun y hy k hk => ?_, List.pairwise_cons.2 ⟨fun y hy => ⟨fun k hk hf => ?_, fun k hk hf => ?_⟩, h.ap⟩, h'.base⟩
  · rcases List.mem_cons.1 hy with rfl | hy
    · exact hx
    · exact h'.at_ y hy
  · rcases List.mem_cons.1 hy with rfl | hy
    · exact (hF k hk).2
    · exact h'.lt y hy k hk
  · rcases List.mem_cons.1 hy with rfl | hy
    · exact ⟨hW k hk, Nat.le_trans h.base (hF k (hW k hk)).1⟩
    · exact h.wf y hy k hk
  · have h1 := h.lt y hy k hf
    have h2 := (hF k (hW k hk)).1
    omega
  · have h1 := h.lt y hy k (h.wf y hy k hk).1
    have h2 := (hF k hf).1
    omega
/-- .. with the blocks hidden. -/
def SysL (B : Nat) (ys : List (Bool × Nat × List M.Cl)) (w : World) : Prop := ∃ xs : List M.Ob, xs.map M.Ob.key = ys ∧ Sys B xs w
theorem SysL.below {B : Nat} {ys : List (Bool × Nat × List M.Cl)} {w w' : World} (h : SysL B ys w) (hb : Below w.heap.size w w') : SysL B ys w' := by
  obtain ⟨xs, h1, h2⟩ := h
  exact ⟨xs, h1, h2.below hb⟩
instance car_sysL {w w' : World} {B : Nat} {ys : List (Bool × Nat × List M.Cl)} : Car w w' (SysL B ys w) (SysL B ys w') := ⟨fun hb h => h.below hb⟩
theorem SysL.nil {B : Nat} {w : World} (h : B ≤ w.heap.size) : SysL B [] w := ⟨[], rfl, (fun x hx => by cases hx), (fun x hx => by cases hx), (fun x hx => by cases hx), List.Pairwise.nil, h⟩
theorem eraseIdx_map15 {α β : Type} (f : α → β) : ∀ (xs : List α) (i : Nat), (xs.map f).eraseIdx i = (xs.eraseIdx i).map f
  | [], _ => rfl
  | _ :: _, 0 => rfl
  | x :: xs, i + 1 => congrArg (f x :: ·) (eraseIdx_map15 f xs i)
theorem front_perm15 {α : Type} : ∀ (xs : List α) (i : Nat) (h : i < xs.length), (xs[i] :: xs.eraseIdx i).Perm xs
  | [], _, h => absurd h (Nat.not_lt_zero _)
  | _ :: _, 0, _ => List.Perm.refl _
  | x :: xs, i + 1, h => by
    have hi : i < xs.length := by simpa using h
    have ih := front_perm15 xs i hi
    exact (List.Perm.swap x xs[i] (xs.eraseIdx i)).trans (ih.cons x)
/-- The i-th to the front. -/
theorem SysL.front {B : Nat} {ys : List (Bool × Nat × List M.Cl)} {w : World} (h : SysL B ys w) (i : Nat) (hi : i < ys.length) : SysL B (ys[i] :: ys.eraseIdx i) w := by
  obtain ⟨xs, rfl, h2⟩ := h
  rw [List.length_map] at hi
  refine ⟨xs[i] :: xs.eraseIdx i, ?_, h2.perm ?_⟩
  · rw [List.map_cons, List.getElem_map, eraseIdx_map15]
  · exact (front_perm15 xs i hi).symm
theorem SysL.mput {B b : Nat} {L : List M.Cl} {ys : List (Bool × Nat × List M.Cl)} {w : World} (c : M.Cl) (h : SysL B ((true, b, L) :: ys) w) (hc : ClOk c) (hn : L.length < 50000) :
    Calls Try.prog 51 #[.pointer (some ⟨b, 0, none⟩), .agg (clA c)] w fun e w' => e = .returned (.int .i64 (if M.mayC c then 0 else 2)) ∧ SysL B ((true, b, M.putL c L) :: ys) w' ∧ Below B w w' := by
  obtain ⟨xs, hk, h2⟩ := h
  cases xs with
  | nil => cases hk
  | cons x xs =>
    obtain ⟨hx, hxs⟩ := List.cons.inj hk
    obtain ⟨xm, xb, xL, F, Wt⟩ := x
    simp only [M.Ob.key, Prod.mk.injEq] at hx
    obtain ⟨rfl, rfl, rfl⟩ := hx
    have h0 := h2.at_ _ (List.mem_cons_self ..)
    unfold ObAt at h0
    rw [if_pos rfl] at h0
    obtain ⟨pa, pc, Ps, k1, k2, k3, k4⟩ := h0
    refine (put15_any B xb pa pc Ps xL c w k1 k2 h2.base hc hn).mono ?_
    rintro e w' ⟨rfl, pa', pc', Ps', m1, m2, m3, m4⟩
    have hlt' : ∀ k, FtS xb pa' Ps' k → k < w'.heap.size := fun k hk => (m1.ft hk).2
    obtain ⟨q1, q2⟩ := h2.turn (x' := ⟨true, xb, M.putL c xL, fun k => F k ∨ (w.heap.size ≤ k ∧ k < w'.heap.size), fun k => Wt k ∨ (w.heap.size ≤ k ∧ k < w'.heap.size)⟩) (m3.mono k4) (by
      unfold ObAt
      rw [if_pos rfl]
      refine ⟨pa', pc', Ps', m1, m2, fun k hk => ?_, fun k hk => ?_⟩
      · rcases m4.2 k hk with q | q
        · exact .inl (k3 k q)
        · exact .inr ⟨q, hlt' k hk⟩
      · rcases m4.1 k hk with q | q
        · exact .inl (k4 k q)
        · exact .inr ⟨q, hlt' k hk.ft⟩) (fun k hk => hk) (fun k hk => ⟨hk, hk.imp_left (fun q => (h2.wf _ (List.mem_cons_self ..) k q).1)⟩)
    exact ⟨rfl, ⟨_, by rw [List.map_cons, hxs]; rfl, q1⟩, q2⟩
theorem SysL.rput {B b : Nat} {L : List M.Cl} {ys : List (Bool × Nat × List M.Cl)} {w : World} (c : M.Cl) (h : SysL B ((false, b, L) :: ys) w) (hc : ClOk c) (hn : L.length ≤ 100000) :
    Calls Try.prog 52 #[.pointer (some ⟨b, 0, none⟩), .agg (clA c)] w fun e w' => e = .returned (.int .i64 (if M.mayC c then 0 else 2)) ∧ SysL B ((false, b, M.putL c L) :: ys) w' ∧ Below B w w' := by
  obtain ⟨xs, hk, h2⟩ := h
  cases xs with
  | nil => cases hk
  | cons x xs =>
    obtain ⟨hx, hxs⟩ := List.cons.inj hk
    obtain ⟨xm, xb, xL, F, Wt⟩ := x
    simp only [M.Ob.key, Prod.mk.injEq] at hx
    obtain ⟨rfl, rfl, rfl⟩ := hx
    have h0 := h2.at_ _ (List.mem_cons_self ..)
    unfold ObAt at h0
    rw [if_neg (by exact Bool.false_ne_true)] at h0
    obtain ⟨ao, cap, k1, k2, k3, k4, k5⟩ := h0
    refine (refPut15_any xb ao cap xL c w k1 hc hn).mono ?_
    rintro e w' ⟨rfl, ao', cap', m1, m2, m3⟩
    obtain ⟨q1, q2⟩ := h2.turn (x' := ⟨false, xb, M.putL c xL, fun k => F k ∨ (w.heap.size ≤ k ∧ k < w'.heap.size), Wt⟩) (m2.mono (fun k hk => by rw [hk]; exact k4)) (by
      unfold ObAt
      rw [if_neg (by exact Bool.false_ne_true)]
      refine ⟨ao', cap', m1, .inl k2, fun a ha => ?_, k4, k5⟩
      rcases m3 with e | e
      · exact .inl (k3 a (e ▸ ha))
      · exact .inr (e a ha)) (fun k hk => hk) (fun k hk => ⟨.inl hk, .inl (h2.wf _ (List.mem_cons_self ..) k hk).1⟩)
    exact ⟨rfl, ⟨_, by rw [List.map_cons, hxs]; rfl, q1⟩, q2⟩
theorem SysL.mrng {B b : Nat} {L : List M.Cl} {ys : List (Bool × Nat × List M.Cl)} {w : World} (h : SysL B ((true, b, L) :: ys) w) :
    Calls Try.prog 56 #[.pointer (some ⟨b, 0, none⟩), .string ⟨#[]⟩, .string ⟨#[]⟩] w fun e w' => RangeR10 L w e w' := by
  obtain ⟨xs, hk, h2⟩ := h
  cases xs with
  | nil => cases hk
  | cons x xs =>
    obtain ⟨hx, hxs⟩ := List.cons.inj hk
    obtain ⟨xm, xb, xL, F, Wt⟩ := x
    simp only [M.Ob.key, Prod.mk.injEq] at hx
    obtain ⟨rfl, rfl, rfl⟩ := hx
    have h0 := h2.at_ _ (List.mem_cons_self ..)
    unfold ObAt at h0
    rw [if_pos rfl] at h0
    obtain ⟨pa, pc, Ps, k1, k2, k3, k4⟩ := h0
    have := range15_any B xb pa pc Ps xL [] [] w k1 (by simp) (by simp)
    rw [M.range_nil] at this
    exact this
theorem SysL.rrow {B b : Nat} {L : List M.Cl} {ys : List (Bool × Nat × List M.Cl)} {w : World} (h : SysL B ((false, b, L) :: ys) w) : ∃ ao cap, RowIn #[.slice ao L.length cap] 78 w b ∧ ClsAt w ao L := by
  obtain ⟨xs, hk, h2⟩ := h
  cases xs with
  | nil => cases hk
  | cons x xs =>
    obtain ⟨hx, hxs⟩ := List.cons.inj hk
    obtain ⟨xm, xb, xL, F, Wt⟩ := x
    simp only [M.Ob.key, Prod.mk.injEq] at hx
    obtain ⟨rfl, rfl, rfl⟩ := hx
    have h0 := h2.at_ _ (List.mem_cons_self ..)
    unfold ObAt at h0
    rw [if_neg (by exact Bool.false_ne_true)] at h0
    obtain ⟨ao, cap, k1, _⟩ := h0
    exact ⟨ao, cap, k1.row, k1.cls⟩
/-- A joined memory, added. -/
theorem SysL.moreM {B b : Nat} {L : List M.Cl} {X : Nat → Prop} {ys : List (Bool × Nat × List M.Cl)} {w w' : World} (h : SysL B ys w) (hb : Below w.heap.size w w') (hm : MemX X w.heap.size b L w') : SysL B ((true, b, L) :: ys) w' := by
  obtain ⟨xs, h1, h2⟩ := h
  obtain ⟨pa, pc, Ps, k1, k2, _⟩ := hm
  refine ⟨⟨true, b, L, FtS b pa Ps, WrS b pa Ps⟩ :: xs, by rw [List.map_cons, h1]; rfl, h2.more hb ?_ (fun k hk => k1.ft hk) (fun k hk => hk.ft)⟩
  unfold ObAt
  rw [if_pos rfl]
  exact ⟨pa, pc, Ps, k1.mono h2.base, k2, fun k hk => hk, fun k hk => hk⟩
/-- The two parts of a memory, added. -/
theorem SysL.moreC {B : Nat} {L K : List M.Cl} {b1 b2 pc1 pc2 : Nat} {pa1 pa2 : Option Addr} {P1 P2 : List M.Pg} {ys : List (Bool × Nat × List M.Cl)} {w w' : World} (h : SysL B ys w) (hb : Below w.heap.size w w') (m1 : MemAt w.heap.size b1 pa1 pc1 P1 L w') (m2 : MemAt w.heap.size b2 pa2 pc2 P2 K w') (s1 : SmP P1) (s2 : SmP P2) (a1 : ∀ k, WrS b1 pa1 P1 k → ¬ FtS b2 pa2 P2 k) (a2 : ∀ k, WrS b2 pa2 P2 k → ¬ FtS b1 pa1 P1 k) : SysL B ((true, b1, L) :: (true, b2, K) :: ys) w' := by
  obtain ⟨xs, h1, h2⟩ := h
  have g2 := h2.more (x := ⟨true, b2, K, FtS b2 pa2 P2, WrS b2 pa2 P2⟩) hb (by
    unfold ObAt
    rw [if_pos rfl]
    exact ⟨pa2, pc2, P2, m2.mono h2.base, s2, fun k hk => hk, fun k hk => hk⟩) (fun k hk => m2.ft hk) (fun k hk => hk.ft)
  have g1 := h2.more (x := ⟨true, b1, L, FtS b1 pa1 P1, WrS b1 pa1 P1⟩) hb (by
    unfold ObAt
    rw [if_pos rfl]
    exact ⟨pa1, pc1, P1, m1.mono h2.base, s1, fun k hk => hk, fun k hk => hk⟩) (fun k hk => m1.ft hk) (fun k hk => hk.ft)
  refine ⟨⟨true, b1, L, FtS b1 pa1 P1, WrS b1 pa1 P1⟩ :: ⟨true, b2, K, FtS b2 pa2 P2, WrS b2 pa2 P2⟩ :: xs, by rw [List.map_cons, List.map_cons, h1]; rfl, ⟨fun x hx => ?_, fun x hx => ?_, fun x hx => ?_, List.pairwise_cons.2 ⟨fun y hy => ?_, g2.ap⟩, g2.base⟩⟩
  · rcases List.mem_cons.1 hx with rfl | hx
    · exact g1.at_ _ (List.mem_cons_self ..)
    · exact g2.at_ x hx
  · rcases List.mem_cons.1 hx with rfl | hx
    · exact g1.lt _ (List.mem_cons_self ..)
    · exact g2.lt x hx
  · rcases List.mem_cons.1 hx with rfl | hx
    · exact g1.wf _ (List.mem_cons_self ..)
    · exact g2.wf x hx
  · rcases List.mem_cons.1 hy with rfl | hy
    · exact ⟨a1, a2⟩
    · exact (List.pairwise_cons.1 g1.ap).1 y hy
/-- A memory of the document's, of new blocks, added. -/
theorem SysL.moreR {B rb cap : Nat} {ao : Option Addr} {L : List M.Cl} {ys : List (Bool × Nat × List M.Cl)} {w w' : World} (h : SysL B ys w) (hb : Below w.heap.size w w') (hr : RefM rb ao cap L w') (h1 : w.heap.size ≤ rb) (h2 : ∀ a, ao = some a → w.heap.size ≤ a.block ∧ a.block < w'.heap.size) : SysL B ((false, rb, L) :: ys) w' := by
  obtain ⟨xs, k1, k2⟩ := h
  refine ⟨⟨false, rb, L, fun k => k = rb ∨ ∃ a, ao = some a ∧ a.block = k, fun k => k = rb⟩ :: xs, by rw [List.map_cons, k1]; rfl, k2.more hb ?_ (fun k hk => ?_) (fun k hk => .inl hk)⟩
  · unfold ObAt
    rw [if_neg (by exact Bool.false_ne_true)]
    exact ⟨ao, cap, hr, .inl rfl, fun a ha => .inr ⟨a, ha, rfl⟩, rfl, Nat.le_trans k2.base h1⟩
  · rcases hk with rfl | ⟨a, ha, rfl⟩
    · exact ⟨h1, hr.row.lt⟩
    · exact h2 a ha

end Go.Proofs.Ythidmgnfdikppaa
