/- Layer 15: a page that took a cell, in a memory. -/
import Derived.Test.YthidmgnfdikppaaZK
import Derived.Test.YthidmgnfdikppaaZG
namespace Go.Proofs.Ythidmgnfdikppaa
set_option linter.unusedVariables false
set_option linter.unusedSimpArgs false
open Go Go.RowKit

theorem cls_take15 : ∀ (l : List M.Cl) (i : Nat), (cls l).take (i * 3) = cls (l.take i)
  | [], i => by simp [cls]
  | x :: t, 0 => by simp [cls]
  | x :: t, i + 1 => by
    have ih := cls_take15 t i
    show (cls ([x] ++ t)).take ((i + 1) * 3) = cls ([x] ++ t.take i)
    rw [cls_append, cls_append, ← ih]
    have hl : (cls [x]).length = 3 := rfl
    rw [show (i + 1) * 3 = (cls [x]).length + i * 3 from by rw [hl]; omega, List.take_append, List.take_of_length_le (Nat.le_add_right _ _), Nat.add_sub_cancel_left]
theorem cls_drop15 : ∀ (l : List M.Cl) (i : Nat), (cls l).drop (i * 3) = cls (l.drop i)
  | [], i => by simp [cls]
  | x :: t, 0 => by simp [cls]
  | x :: t, i + 1 => by
    have ih := cls_drop15 t i
    show (cls ([x] ++ t)).drop ((i + 1) * 3) = cls (t.drop i)
    rw [cls_append, ← ih]
    have hl : (cls [x]).length = 3 := rfl
    rw [show (i + 1) * 3 = (cls [x]).length + i * 3 from by rw [hl]; omega, List.drop_append]
    simp [hl]
theorem cls_insV15 (l : List M.Cl) (c : M.Cl) (i : Nat) : insV (cls l) (i * 3) (clL c) = cls (l.take i ++ c :: l.drop i) := by
  rw [insV, cls_take15, cls_drop15, show l.take i ++ c :: l.drop i = l.take i ++ [c] ++ l.drop i from by simp, cls_append, cls_append]
  rfl
theorem ownsRow_set15 {w : World} {B : Nat} {e : TypeId} {g n cap : Nat} {xs : List Value} (h : w.ownsRow B e 1 (.slice (some ⟨g, 0, none⟩) n cap) n xs) (j : Nat) (v : Value) : (w.setCell ⟨g, j, none⟩ v).ownsRow B e 1 (.slice (some ⟨g, 0, none⟩) n cap) n (xs.set j v) := by
  obtain ⟨cur, hg, hcs, hct, hnc, hcm, hB⟩ := setRow_own15 h
  have hr : RowIn cur e w g := hg
  refine ⟨by rw [List.length_set]; exact h.1, .inr ⟨g, cap, cur.setIfInBounds j v, rfl, hB, hr.set j v, hnc, hcm, by simpa using hcs, ?_⟩⟩
  rw [← hct, Array.toList_setIfInBounds, List.take_set]
/-- A page and what it became by one more cell. -/
def RepPg (B : Nat) (w w2 : World) (p p' : M.Pg) : Prop :=
  (p.l.length < p.k ∧ p'.q = p.q ∧ p'.k = p.k ∧ p'.l.length ≤ p'.k ∧ p'.o = 0 ∧ w2.ownsRow B 38 3 (pgV p') p'.l.length (cls p'.l) ∧ w.grownBy w2 (some p.q)) ∨
  (p'.q = w.heap.size ∧ p'.o = 0 ∧ w2.ownsRow w.heap.size 38 3 (pgV p') p'.l.length (cls p'.l) ∧ Below w.heap.size w w2)
/-- Blocks that a memory may write. -/
def WrS (b : Nat) (pa : Option Addr) (Ps : List M.Pg) (k : Nat) : Prop := k = b ∨ (∃ o, pa = some ⟨k, o, none⟩) ∨ ∃ p, p ∈ Ps ∧ p.l.length ≠ p.k ∧ p.q = k
/-- All blocks of a memory. -/
def FtS (b : Nat) (pa : Option Addr) (Ps : List M.Pg) (k : Nat) : Prop := k = b ∨ (∃ o, pa = some ⟨k, o, none⟩) ∨ ∃ p, p ∈ Ps ∧ p.q = k
/-- What a memory may write, and has, it had, or it is new. -/
def Grw (b : Nat) (pa : Option Addr) (Ps : List M.Pg) (w : World) (pa' : Option Addr) (Ps' : List M.Pg) : Prop := (∀ k, WrS b pa' Ps' k → WrS b pa Ps k ∨ w.heap.size ≤ k) ∧ (∀ k, FtS b pa' Ps' k → FtS b pa Ps k ∨ w.heap.size ≤ k)
theorem Grw.refl (b : Nat) (pa : Option Addr) (Ps : List M.Pg) (w : World) : Grw b pa Ps w pa Ps := ⟨fun _ h => .inl h, fun _ h => .inl h⟩
theorem Grw.mono {b : Nat} {pa pa' : Option Addr} {Ps Ps' : List M.Pg} {w w1 : World} (h : Grw b pa Ps w1 pa' Ps') (hs : w.heap.size ≤ w1.heap.size) : Grw b pa Ps w pa' Ps' := ⟨fun k hk => (h.1 k hk).imp_right (fun q => Nat.le_trans hs q), fun k hk => (h.2 k hk).imp_right (fun q => Nat.le_trans hs q)⟩
theorem Grw.trans {b : Nat} {pa0 pa pa' : Option Addr} {Ps0 Ps Ps' : List M.Pg} {w w1 : World} (h : Grw b pa0 Ps0 w pa Ps) (k : Grw b pa Ps w1 pa' Ps') (hs : w.heap.size ≤ w1.heap.size) : Grw b pa0 Ps0 w pa' Ps' := ⟨fun i hi => by
  rcases k.1 i hi with q | q
  · exact h.1 i q
  · exact .inr (Nat.le_trans hs q), fun i hi => by
  rcases k.2 i hi with q | q
  · exact h.2 i q
  · exact .inr (Nat.le_trans hs q)⟩
theorem pgCl_own {B : Nat} {w : World} {p : M.Pg} (h : w.ownsRow B 38 3 (pgV p) p.l.length (cls p.l)) (ho : p.o = 0) : PgCl w p := fun j hj => by
  have hc := clsAt_own (ao := some ⟨p.q, p.o, none⟩) (cap := p.k) h rfl
  obtain ⟨g, off, e, hk⟩ := hc (fun e => by rw [e] at hj; simp at hj)
  injection e with e
  injection e with e1 e2
  subst e1; rw [e2]; exact hk j hj
theorem pgOwn_row {B : Nat} {w : World} {p : M.Pg} (h : w.ownsRow B 38 3 (pgV p) p.l.length (cls p.l)) (hn : 0 < p.l.length) : B ≤ p.q ∧ p.q < w.heap.size ∧ (∃ C, RowIn C 38 w p.q) ∧ p.l.length ≤ p.k := by
  rcases h.2 with ⟨_, e⟩ | ⟨g, cap, cur, e, hB, hg, hc, _⟩
  · omega
  · unfold pgV at e
    injection e with e1 e2 e3
    injection e1 with e1
    injection e1 with e1
    rw [e1, e3]
    exact ⟨hB, (Array.getElem?_eq_some_iff.1 hg).1, ⟨cur, hg⟩, hc⟩
section
variable {B b g pc : Nat} {Ps : List M.Pg} {L : List M.Cl} {w w2 : World} {p p' : M.Pg}
theorem RepPg.only (h : RepPg B w w2 p p') : OnlyS (fun k => p.l.length ≠ p.k ∧ p.q = k) w w2 := by
  rcases h with ⟨h1, h2, _, _, _, _, hg⟩ | ⟨_, _, _, hb⟩
  · exact onlyS_grown hg (fun k e => by cases e; exact ⟨by omega, rfl⟩)
  · exact onlyS_below hb
theorem RepPg.own (h : RepPg B w w2 p p') (hB : B ≤ w.heap.size) : w2.ownsRow B 38 3 (pgV p') p'.l.length (cls p'.l) ∧ p'.o = 0 := by
  rcases h with ⟨_, _, _, _, ho, hw, _⟩ | ⟨_, ho, hw, _⟩
  · exact ⟨hw, ho⟩
  · exact ⟨ownP_mono hw hB, ho⟩
/-- Pages apart, where one was put in another one's place. -/
theorem pgsAp_set (hap : PgsAp Ps) (hblk : ∀ p, p ∈ Ps → PgBlk B w p) {a : Nat} (ha : a < Ps.length) (h : RepPg B w w2 (Ps.getD a M.pg0) p') : PgsAp (Ps.set a p') := fun i j hi hj hij => by
  rw [List.length_set] at hi hj
  have gi : ∀ k, k < Ps.length → (Ps.set a p').getD k M.pg0 = if a = k then p' else Ps.getD k M.pg0 := fun k hk => by
    simp only [List.getD, List.getElem?_set]
    by_cases e : a = k
    · subst e; simp [hk]
    · simp [e]
  rw [gi i hi, gi j hj]
  have hlt : ∀ k, k < Ps.length → (Ps.getD k M.pg0).q < w.heap.size := fun k hk => by
    obtain ⟨_, ⟨C, hC⟩, _⟩ := hblk _ (M.getD_memP hk)
    exact hC.lt
  by_cases ei : a = i
  · subst ei
    rw [if_pos rfl, if_neg hij]
    intro hn
    rcases h with ⟨h1, h2, h3, h4, _⟩ | ⟨h1, _⟩
    · rw [h2]
      exact hap a j ha hj hij (by omega)
    · rw [h1]
      have := hlt j hj
      omega
  · rw [if_neg ei]
    by_cases ej : a = j
    · subst ej
      rw [if_pos rfl]
      intro hn
      rcases h with ⟨h1, h2, _⟩ | ⟨h1, _⟩
      · rw [h2]
        exact hap i a hi ha hij hn
      · rw [h1]
        have := hlt i hi
        omega
    · rw [if_neg ej]
      exact hap i j hi hj hij
theorem flat_set15 {a : Nat} (ha : a < Ps.length) : M.flat (Ps.set a p') = M.flat (Ps.take a) ++ p'.l ++ M.flat (Ps.drop (a + 1)) := by
  rw [List.set_eq_take_append_cons_drop, if_pos ha, M.flat_append, M.flat_cons, List.append_assoc]
/-- The page, put where it belongs; one more is counted. -/
theorem MemAt.put {L' : List M.Cl} (h : MemAt B b (some ⟨g, 0, none⟩) pc Ps L w) {a : Nat} (ha : a < Ps.length) (hr : RepPg B w w2 (Ps.getD a M.pg0) p') (hB : B ≤ w.heap.size) (h0 : 0 < p'.l.length ∧ p'.l.length ≤ 64) (hf : M.flat (Ps.set a p') = L') (hst : M.Stt L') (hl : L'.length = L.length + 1) (hn : L'.length ≤ 50000) (hok : ∀ c, c ∈ L' → ClOk c ∧ M.mayC c = true) :
    MemAt B b (some ⟨g, 0, none⟩) pc (Ps.set a p') L' ((w2.setCell ⟨g, a, none⟩ (pgV p')).setCell ⟨b, 1, none⟩ (.int .i64 ((L.length : Int) + 1))) ∧
    OnlyS (WrS b (some ⟨g, 0, none⟩) Ps) w ((w2.setCell ⟨g, a, none⟩ (pgV p')).setCell ⟨b, 1, none⟩ (.int .i64 ((L.length : Int) + 1))) ∧ Grw b (some ⟨g, 0, none⟩) Ps w (some ⟨g, 0, none⟩) (Ps.set a p') := by
  have ho := hr.only
  have hmem := M.getD_memP ha
  have hgb : g ≠ b := row_apart h.row h.pgs.row (by decide) g rfl
  have hCq : ∀ q, q ∈ Ps → q.q ≠ b ∧ q.q ≠ g := fun q hq => by
    obtain ⟨_, ⟨C, hC⟩, _⟩ := h.blk q hq
    exact ⟨fun e => rowIn_ne hC h.row (by decide) e, fun e => row_apart hC h.pgs.row (by decide) g rfl e.symm⟩
  have hrow2 : RowIn #[.slice (some ⟨g, 0, none⟩) Ps.length pc, .int .i64 L.length, .bool true] 132 w2 b := ho.row h.row (fun e => (hCq _ hmem).1 e.2)
  have hpg2 : w2.ownsRow B 136 1 (.slice (some ⟨g, 0, none⟩) Ps.length pc) Ps.length (pgsV Ps) := ho.own h.pgs.row (fun q e hq => by cases e; exact (hCq _ hmem).2 hq.2)
  obtain ⟨hown, hpo⟩ := hr.own hB
  obtain ⟨hb1, hb2, ⟨C', hC'⟩, hlk⟩ := pgOwn_row hown h0.1
  have hqb : p'.q ≠ b := fun e => rowIn_ne hC' hrow2 (by decide) e
  have hqg : p'.q ≠ g := fun e => row_apart hC' hpg2 (by decide) g rfl e.symm
  -- a page's cells, over the two stores
  have keepC : ∀ q : M.Pg, q.q ≠ b → q.q ≠ g → PgCl w2 q → PgCl ((w2.setCell ⟨g, a, none⟩ (pgV p')).setCell ⟨b, 1, none⟩ (.int .i64 ((L.length : Int) + 1))) q := fun q h1 h2 hc j hj =>
    clOff_blk15 (hc j hj) (by rw [Below.heap_setCell _ _ _ _ h1, Below.heap_setCell _ _ _ _ h2])
  have keepR : ∀ (q : Nat) (C : Array Value), q ≠ b → q ≠ g → RowIn C 38 w2 q → RowIn C 38 ((w2.setCell ⟨g, a, none⟩ (pgV p')).setCell ⟨b, 1, none⟩ (.int .i64 ((L.length : Int) + 1))) q := fun q C h1 h2 hc => (hc.other h2 _ _).other h1 _ _
  have keepO : ∀ q : M.Pg, q.q ≠ b → q.q ≠ g → w2.ownsRow B 38 3 (pgV q) q.l.length (cls q.l) → ((w2.setCell ⟨g, a, none⟩ (pgV p')).setCell ⟨b, 1, none⟩ (.int .i64 ((L.length : Int) + 1))).ownsRow B 38 3 (pgV q) q.l.length (cls q.l) := fun q h1 h2 hc =>
    ownsRow_setCell_other (a := ⟨b, 1, none⟩) (ownsRow_setCell_other (a := ⟨g, a, none⟩) hc (fun e => by injection e with e; exact h2 e) _) (fun e => by injection e with e; exact h1 e) _
  -- other pages, from w to w2
  have other : ∀ i, i < Ps.length → i ≠ a → ¬ ((Ps.getD a M.pg0).l.length ≠ (Ps.getD a M.pg0).k ∧ (Ps.getD a M.pg0).q = (Ps.getD i M.pg0).q) := fun i hi hia hh => h.ap a i ha hi (fun e => hia e.symm) hh.1 hh.2
  have hset : ∀ q, q ∈ Ps.set a p' → q = p' ∨ ∃ i, i < Ps.length ∧ i ≠ a ∧ Ps.getD i M.pg0 = q := fun q hq => by
    obtain ⟨i, hi, e⟩ := List.getElem_of_mem hq
    rw [List.length_set] at hi
    rw [List.getElem_set] at e
    split at e
    · exact .inl e.symm
    · rename_i hne
      exact .inr ⟨i, hi, fun e' => hne e'.symm, by rw [M.gD15 _ i M.pg0 hi]; exact e⟩
  refine ⟨⟨?_, ⟨?_, fun q hq => ?_⟩, hf, hst, fun q hq => ?_, fun q hq => ?_, pgsAp_set h.ap h.blk ha hr, h.bb, hn, hok⟩, ?_, ⟨fun k hk => ?_, fun k hk => ?_⟩⟩
  · rw [List.length_set, hl]
    have := (hrow2.other (c := g) (fun e => hgb e.symm) a (pgV p')).set 1 (.int .i64 ((L.length : Int) + 1))
    simpa using this
  · rw [List.length_set]
    have h1 := ownsRow_set15 hpg2 a (pgV p')
    have h2 := ownsRow_setCell_other (a := ⟨b, 1, none⟩) h1 (fun e => by injection e with e; exact hgb e) (.int .i64 ((L.length : Int) + 1))
    rwa [show (pgsV Ps).set a (pgV p') = pgsV (Ps.set a p') from by simp [pgsV, List.map_set]] at h2
  · rcases hset q hq with rfl | ⟨i, hi, hia, rfl⟩
    · exact keepC _ hqb hqg (pgCl_own hown hpo)
    · have hm := M.getD_memP hi
      obtain ⟨_, ⟨C, hC⟩, _⟩ := h.blk _ hm
      refine keepC _ (hCq _ hm).1 (hCq _ hm).2 (fun j hj => clOff_blk15 (h.pgs.each _ hm j hj) (ho.block _ hC.lt (other i hi hia)))
  · rcases hset q hq with rfl | ⟨i, hi, hia, rfl⟩
    · refine ⟨hb1, ⟨C', keepR _ _ hqb hqg hC'⟩, ?_⟩
      rcases Nat.lt_or_ge q.l.length q.k with hlt | hge
      · exact .inr ⟨hpo, hlt, keepO _ hqb hqg hown⟩
      · exact .inl (by omega)
    · have hm := M.getD_memP hi
      obtain ⟨k1, ⟨C, hC⟩, k3⟩ := h.blk _ hm
      refine ⟨k1, ⟨C, keepR _ _ (hCq _ hm).1 (hCq _ hm).2 (ho.row hC (other i hi hia))⟩, ?_⟩
      rcases k3 with k3 | ⟨x1, x2, x3⟩
      · exact .inl k3
      · exact .inr ⟨x1, x2, keepO _ (hCq _ hm).1 (hCq _ hm).2 (ho.own x3 (fun q e hq => by injection e with e; subst e; exact other i hi hia hq))⟩
  · rcases hset q hq with rfl | ⟨i, hi, hia, rfl⟩
    · exact h0
    · exact h.sm _ (M.getD_memP hi)
  · refine OnlyS.trans (ho.mono (fun k hk => .inr (.inr ⟨_, hmem, hk.1, hk.2⟩))) ((onlyS_set w2 g a _ (.inr (.inl ⟨0, rfl⟩))).trans (onlyS_set _ b 1 _ (.inl rfl)))
  · rcases hk with rfl | ⟨o, e⟩ | ⟨q, hq, hq1, rfl⟩
    · exact .inl (.inl rfl)
    · exact .inl (.inr (.inl ⟨o, e⟩))
    · rcases hset q hq with rfl | ⟨i, hi, hia, rfl⟩
      · rcases hr with ⟨h1, h2, h3, h4, _⟩ | ⟨h1, _⟩
        · exact .inl (.inr (.inr ⟨_, hmem, by omega, h2.symm⟩))
        · exact .inr (by rw [h1]; exact Nat.le_refl _)
      · exact .inl (.inr (.inr ⟨_, M.getD_memP hi, hq1, rfl⟩))
  · rcases hk with rfl | ⟨o, e⟩ | ⟨q, hq, rfl⟩
    · exact .inl (.inl rfl)
    · exact .inl (.inr (.inl ⟨o, e⟩))
    · rcases hset q hq with rfl | ⟨i, hi, hia, rfl⟩
      · rcases hr with ⟨h1, h2, h3, h4, _⟩ | ⟨h1, _⟩
        · exact .inl (.inr (.inr ⟨_, hmem, h2.symm⟩))
        · exact .inr (by rw [h1]; exact Nat.le_refl _)
      · exact .inl (.inr (.inr ⟨_, M.getD_memP hi, rfl⟩))
end

end Go.Proofs.Ythidmgnfdikppaa
